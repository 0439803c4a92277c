/-
  Merged: BoLook, BoChange, BoCln, BoCo, BoDoA, BoDoNo, BoDoForm, BoDoChg, BoDoLook, BoDo.
-/
import Derived.Test.YthbmnkeigmbbdaaGreatBgB
import Derived.Test.YthbmnkeigmbbdaaGreatBgX
import Derived.Test.YthbmnkeigmbbdaaGreatBoBind
import Derived.Test.YthbmnkeigmbbdaaGreatBookCo
import Derived.Deep.RegionWith
import Derived.Deep.RegionHeld3
/-
  WHERE A TASK IS: book.look.
-/
namespace Go.Proofs.YthbmnkeigmbbdaaGreat
open Go.RowKit Go.Lib
namespace Bo
open Rw
set_option linter.unusedVariables false
theorem tlC_one (v : Int) (s : ByteArray) : ∀ u ∈ ([.int .i64 v, .string s] : List Value), u.oneCell' = true := by
  intro u hu
  simp only [List.mem_cons, List.not_mem_nil, or_false] at hu
  rcases hu with rfl | rfl <;> rfl
/-- The node that a task is on. -/
def onB (l : List Rg.Pr) (k : ByteArray) : ByteArray := if hsB l k = true then ((l[lbB l k]?).map (·.v)).getD ByteArray.empty else ByteArray.empty
def lkV (b : Bk) (k : ByteArray) : Nat × ByteArray := if hsT b.ts k = true then (0, onB b.bs k) else (6, ByteArray.empty)
set_option maxRecDepth 100000 in
set_option maxHeartbeats 4000000 in
theorem look_is (b : Bk) (vn vt vb : Value) (k s : ByteArray) (r : Nat) (w : World) (hB : Books w w.heap.size vn vt vb b) (hf : Fine b) (hL : Lists b) (hv : lkV b k = (r, s)) :
    Calls Tryz.prog 53 #[.agg #[vn, vt, vb, .int .u64 (b.fe : Nat)], .string k] w fun e w' => e = .returned (.agg #[.int .i64 (r : Nat), .string s]) ∧ Below w.heap.size w w' := by
  obtain ⟨W0, hW0⟩ : ∃ W0, W0 = (w.alloc (.cells #[vn, vt, vb, .int .u64 (b.fe : Nat)] 27)).alloc (.cells #[.int .i64 0, .string ⟨#[]⟩] 50) := ⟨_, rfl⟩
  have hb0 : Below w.heap.size w W0 := by rw [hW0]; exact ((Below.refl _ w).alloc (Nat.le_refl _) _).alloc (by simp) _
  have hz0 : W0.heap.size = w.heap.size + 1 + 1 := by rw [hW0]; simp
  have hbx : Hd.Bxn W0 w.heap.size [vn, vt, vb, .int .u64 (b.fe : Nat)] := by
    rw [hW0]
    exact (Hd.Bxn.made w [vn, vt, vb, .int .u64 (b.fe : Nat)] 27).below (al _ _)
  have hrs : Hd.Bxn W0 (w.heap.size + 1) [.int .i64 0, .string ⟨#[]⟩] := by
    rw [hW0]
    have := Hd.Bxn.made (w.alloc (.cells #[vn, vt, vb, .int .u64 (b.fe : Nat)] 27)) [.int .i64 0, .string ⟨#[]⟩] 50
    rwa [World.size_alloc] at this
  have HFI : Hid (Calls Tryz.prog 97 #[vt, .func (.func 65) #[] #[], .string k] W0 fun e w' => ∃ i : Nat, e = .returned (.tuple #[.int .i64 (i : Nat), .bool (hsT b.ts k)]) ∧ Below W0.heap.size W0 w') := by
    have hl := hf.lt
    obtain ⟨m, hm, hsm, -⟩ := hB.ht
    have hkm : m.map (·.td.n) = b.ts.map (·.n) := by rw [hm, List.map_map]; rfl
    refine (find_t vt m k W0 (hsm.on hb0) (by rw [hkm]; exact hL.rt)).mono ?_
    rintro e w' ⟨he, hb⟩
    unfold FoundT at he
    rw [hkm] at he
    exact ⟨_, he, hb⟩
  have HGB : Hid (∀ z, Hid (Below w.heap.size w z) → Calls Tryz.prog 98 #[vb, .func (.func 67) #[] #[], .string k] z fun e w' => ∃ (k' : ByteArray) (t : Bool), e = .returned (.tuple #[.agg #[.string k', .string (onB b.bs k)], .bool t]) ∧ Below z.heap.size z w') := fun z hz => by
    refine (get_b vb b.bs k z (hB.hb.1.on hz.out) hL.rb).mono ?_
    rintro e w' ⟨h | h, hb⟩
    · obtain ⟨h1, h2, h3, he⟩ := h
      refine ⟨b.bs[lbK (b.bs.map (·.k)) k].k, true, ?_, hb⟩
      rw [he, show onB b.bs k = b.bs[lbK (b.bs.map (·.k)) k].v from by
        unfold onB
        rw [if_pos (show hsB b.bs k = true from h1), show b.bs[lbB b.bs k]? = some _ from List.getElem?_eq_getElem h2]
        rfl]
      rfl
    · obtain ⟨h1, he⟩ := h
      refine ⟨ByteArray.empty, false, ?_, hb⟩
      rw [he, show onB b.bs k = ByteArray.empty from by
        unfold onB
        rw [if_neg (by rw [show hsB b.bs k = false from h1]; decide)]]
  obtain ⟨an, cn, hvn⟩ := hB.hn.slice
  obtain ⟨at', ct, hvt⟩ := hB.ht.slice
  obtain ⟨ab, cb, hvb⟩ := hB.hb.slice
  subst hvn hvt hvb
  have HW := Lib.hid hW0
  have HB0 := Lib.hid hb0
  have HSZ := Lib.hid hz0
  have HBX : Hid (Hd.Bxn W0 w.heap.size [.slice an b.ns.length cn, .slice at' b.ts.length ct, .slice ab b.bs.length cb, .int .u64 (b.fe : Nat)]) := hbx
  have HRS := Lib.hid hrs
  unfold lkV at hv
  clear hW0 hb0 hz0 hbx hrs hB hf hL
  by_cases hh : hsT b.ts k = true
  · rw [if_pos hh] at hv
    rw [hh] at HFI
    obtain ⟨rfl, rfl⟩ := Prod.mk.inj hv
    clear hv hh
    generalize onB b.bs k = s at *
    go_enter Tryz.func53, Tryz.ntmps53
    go_upto_region 1 with fail
    rw [← HW.out]
    have b1 : W0.cell? ⟨w.heap.size, 1, none⟩ = some (.slice at' b.ts.length ct) := HBX.out.cell 1
    go_wp2_with fail
    refine HFI.out.mono ?_
    rintro e w1 ⟨i, rfl, hb⟩
    have H1 : Hid (Below w.heap.size w w1) := HB0.out.trans (hb.mono HB0.out.size)
    have b2 : w1.cell? ⟨w.heap.size, 2, none⟩ = some (.slice ab b.bs.length cb) := (HBX.out.below hb).cell 2
    have HR1 := Lib.hid (HRS.out.below hb)
    have HZ1 : Hid (w.heap.size + 1 + 1 ≤ w1.heap.size) := Lib.hid (by have := hb.size; rw [HSZ.out] at this; exact this)
    clear hb b1
    go_wp2_with fail
    refine (HGB.out _ H1).mono ?_
    rintro e w2 ⟨k', t', rfl, hb⟩
    obtain ⟨w3, hw3⟩ : ∃ w3, w3 = w2.alloc (.cells #[.string k', .string s] 106) := ⟨_, rfl⟩
    have h23 : Below w2.heap.size w2 w3 := by rw [hw3]; exact al w2 _
    have H3 : Hid (Below w.heap.size w w3) := (H1.out.trans (hb.mono H1.out.size)).trans (h23.mono (Nat.le_trans H1.out.size hb.size))
    have hrz : Hid (Hd.Bxn w3 (w.heap.size + 1) [.int .i64 0, .string ⟨#[]⟩]) := (HR1.out.below hb).below h23
    have d1 : w3.cell? ⟨w2.heap.size, 1, none⟩ = some (.string s) := by rw [hw3]; exact (Hd.Bxn.made w2 [.string k', .string s] 106).cell 1
    have HW3 := Lib.hid hw3
    clear hb b2 h23 hw3
    go_upto_region 5 with fail
    rw [← HW3.out]
    have hth := hrz.out.there 2 rfl
    refine wp_region_list ?_
    refine wpList_plain rfl fun K hK => ?_
    go_simp
    refine hK _ _ ?_
    clear hK K
    refine wpList_plain rfl fun K hK => ?_
    go_simp
    refine hK _ _ ?_
    clear hK K
    refine wpList_plain rfl fun K hK => ?_
    go_simp
    refine hK _ _ ?_
    clear hK K
    refine wpList_store_mid rfl 50 (.tmp 4) (.tmp 28) rfl (w.heap.size + 1) 0 #[.int .i64 0, .string s] rfl rfl hth rfl (all_oneCell_toArray (tlC_one _ _)) ?_
    rw [show (#[.int .i64 0, .string s] : Array Value).toList = [.int .i64 0, .string s] from rfl]
    have HE := Lib.hid (hrz.out.all [.int .i64 0, .string s] rfl)
    have HBE : Hid (Below w.heap.size w (w3.setCells (w.heap.size + 1) 0 [.int .i64 0, .string s])) := below_setCells H3.out (by omega) _ _
    generalize w3.setCells (w.heap.size + 1) 0 [.int .i64 0, .string s] = wE at *
    refine wpList_nil ?_
    go_wp2
    exact Hd.bodyPost_bx rfl (w.heap.size + 1) [.int .i64 0, .string s] _ rfl rfl HE.out Tryz.underlying50 rfl rfl ⟨rfl, HBE.out⟩
  · rw [if_neg hh] at hv
    have hf2 : hsT b.ts k = false := by simpa using hh
    rw [hf2] at HFI
    obtain ⟨rfl, rfl⟩ := Prod.mk.inj hv
    clear hv hh hf2
    go_enter Tryz.func53, Tryz.ntmps53
    go_upto_region 1 with fail
    rw [← HW.out]
    have b1 : W0.cell? ⟨w.heap.size, 1, none⟩ = some (.slice at' b.ts.length ct) := HBX.out.cell 1
    go_wp2_with fail
    refine HFI.out.mono ?_
    rintro e w1 ⟨i, rfl, hb⟩
    have H1 : Hid (Below w.heap.size w w1) := HB0.out.trans (hb.mono HB0.out.size)
    have hrz : Hid (Hd.Bxn w1 (w.heap.size + 1) [.int .i64 0, .string ⟨#[]⟩]) := HRS.out.below hb
    clear hb b1
    go_upto_region 3 with fail
    have hth := hrz.out.there 2 rfl
    refine wp_region_list ?_
    refine wpList_plain rfl fun K hK => ?_
    go_simp
    refine hK _ _ ?_
    clear hK K
    refine wpList_store_mid rfl 50 (.tmp 4) (.tmp 18) rfl (w.heap.size + 1) 0 #[.int .i64 6, .string ⟨#[]⟩] rfl rfl hth rfl (all_oneCell_toArray (tlC_one _ _)) ?_
    rw [show (#[.int .i64 6, .string ⟨#[]⟩] : Array Value).toList = [.int .i64 6, .string ⟨#[]⟩] from rfl]
    have HE := Lib.hid (hrz.out.all [.int .i64 6, .string ⟨#[]⟩] rfl)
    have HBE : Hid (Below w.heap.size w (w1.setCells (w.heap.size + 1) 0 [.int .i64 6, .string ⟨#[]⟩])) := below_setCells H1.out (by omega) _ _
    generalize w1.setCells (w.heap.size + 1) 0 [.int .i64 6, .string ⟨#[]⟩] = wE at *
    refine wpList_nil ?_
    go_wp2
    exact Hd.bodyPost_bx rfl (w.heap.size + 1) [.int .i64 6, .string ⟨#[]⟩] _ rfl rfl HE.out Tryz.underlying50 rfl rfl ⟨rfl, HBE.out⟩
end Bo
end Go.Proofs.YthbmnkeigmbbdaaGreat

/-
  A BOOK CHANGED: book.change.
-/
namespace Go.Proofs.YthbmnkeigmbbdaaGreat
open Go.RowKit Go.Lib
namespace Bo
open Rw
set_option linter.unusedVariables false
/-- What an order that changes a book comes to. -/
def chV (b : Bk) (C : Hd.Cd) : Bk × Nat :=
  if C.k = 1 then adN b C.nd else if C.k = 2 then doN b C.na else if C.k = 3 then adT b C.td else if C.k = 4 then doT b C.na else if C.k = 5 then biB b C.na C.on C.fe else frB b C.na
set_option maxRecDepth 100000 in
set_option maxHeartbeats 4000000 in
theorem change_1 (b b' : Bk) (r P base : Nat) (vn vt vb : Value) (mn : List NdM) (mt : List TdM) (C : Hd.Cd) (a2 a3 a4 a5 : Option Addr) (c2 c3 c4 c5 : Nat) (w : World) (hs : St w P base b vn vt vb mn mt) (hf : Fine b) (hL : Lists b) (hdn : DeepN w w.heap.size ⟨C.nd, a2, c2, a3, c3⟩) (hfn : FitN C.nd) (hdt : DeepT w w.heap.size ⟨C.td, a4, c4, a5, c5⟩) (hft : FitT C.td) (hk : C.k = 1) (hv : adN b C.nd = (b', r)) :
    Calls Tryz.prog 54 #[.pointer (some ⟨P, 0, none⟩), .agg #[.int .u8 (C.k : Nat), .string C.nd.n, .int .i64 C.nd.z0, .int .i64 C.nd.z1, .int .i64 C.nd.z2, .slice a2 C.nd.ls.length c2, .slice a3 C.nd.ts.length c3, .string C.td.n, .int .i64 C.td.z0, .int .i64 C.td.z1, .int .i64 C.td.z2, .slice a4 C.td.ws.length c4, .slice a5 C.td.bs.length c5, .string C.td.g, .string C.td.a, .int .i64 C.td.r, .string C.na, .string C.on, .int .u64 (C.fe : Nat)]] w fun e w' => e = .returned (.int .i64 (r : Nat)) ∧ StE w' P base b' ∧ Chg P base w w' := by
  obtain ⟨W0, hW0⟩ : ∃ W0, W0 = w.alloc (.cells #[.int .u8 (C.k : Nat), .string C.nd.n, .int .i64 C.nd.z0, .int .i64 C.nd.z1, .int .i64 C.nd.z2, .slice a2 C.nd.ls.length c2, .slice a3 C.nd.ts.length c3, .string C.td.n, .int .i64 C.td.z0, .int .i64 C.td.z1, .int .i64 C.td.z2, .slice a4 C.td.ws.length c4, .slice a5 C.td.bs.length c5, .string C.td.g, .string C.td.a, .int .i64 C.td.r, .string C.na, .string C.on, .int .u64 (C.fe : Nat)] 55) := ⟨_, rfl⟩
  have hb0 : Below w.heap.size w W0 := by rw [hW0]; exact al w _
  have hbx : Hd.Bxn W0 w.heap.size [.int .u8 (C.k : Nat), .string C.nd.n, .int .i64 C.nd.z0, .int .i64 C.nd.z1, .int .i64 C.nd.z2, .slice a2 C.nd.ls.length c2, .slice a3 C.nd.ts.length c3, .string C.td.n, .int .i64 C.td.z0, .int .i64 C.td.z1, .int .i64 C.td.z2, .slice a4 C.td.ws.length c4, .slice a5 C.td.bs.length c5, .string C.td.g, .string C.td.a, .int .i64 C.td.r, .string C.na, .string C.on, .int .u64 (C.fe : Nat)] := by rw [hW0]; exact Hd.Bxn.made w [.int .u8 (C.k : Nat), .string C.nd.n, .int .i64 C.nd.z0, .int .i64 C.nd.z1, .int .i64 C.nd.z2, .slice a2 C.nd.ls.length c2, .slice a3 C.nd.ts.length c3, .string C.td.n, .int .i64 C.td.z0, .int .i64 C.td.z1, .int .i64 C.td.z2, .slice a4 C.td.ws.length c4, .slice a5 C.td.bs.length c5, .string C.td.g, .string C.td.a, .int .i64 C.td.r, .string C.na, .string C.on, .int .u64 (C.fe : Nat)] 55
  have HCA : Hid (Calls Tryz.prog 99 #[.pointer (some ⟨P, 0, none⟩), .agg #[.string C.nd.n, .int .i64 C.nd.z0, .int .i64 C.nd.z1, .int .i64 C.nd.z2, .slice a2 C.nd.ls.length c2, .slice a3 C.nd.ts.length c3]] W0 fun e w' => e = .returned (.int .i64 (r : Nat)) ∧ StE w' P base b' ∧ Chg P base W0 w') := addn_n b b' r P base vn vt vb mn mt ⟨C.nd, a2, c2, a3, c3⟩ W0 (hs.keep hb0) hf hL.rn (hdn.on hb0) hfn hv
  have HBW := Lib.hid hs.bw
  have HB0 := Lib.hid hb0
  have HBX : Hid (Hd.Bxn W0 w.heap.size [.int .u8 (C.k : Nat), .string C.nd.n, .int .i64 C.nd.z0, .int .i64 C.nd.z1, .int .i64 C.nd.z2, .slice a2 C.nd.ls.length c2, .slice a3 C.nd.ts.length c3, .string C.td.n, .int .i64 C.td.z0, .int .i64 C.td.z1, .int .i64 C.td.z2, .slice a4 C.td.ws.length c4, .slice a5 C.td.bs.length c5, .string C.td.g, .string C.td.a, .int .i64 C.td.r, .string C.na, .string C.on, .int .u64 (C.fe : Nat)]) := hbx
  have HW := Lib.hid hW0
  have HK := Lib.hid hk
  clear hW0 hb0 hbx hs hf hL hdn hfn hdt hft hv hk
  go_enter Tryz.func54, Tryz.ntmps54
  go_upto_region 1 with fail
  rw [← HW.out]
  have o0 : W0.cell? ⟨w.heap.size, 0, none⟩ = some (.int .u8 1) := by have h := HBX.out.cell 0; rw [HK.out] at h; exact h
  have o1 : W0.cell? ⟨w.heap.size, 1, none⟩ = some (.string C.nd.n) := HBX.out.cell 1
  have o2 : W0.cell? ⟨w.heap.size, 2, none⟩ = some (.int .i64 C.nd.z0) := HBX.out.cell 2
  have o3 : W0.cell? ⟨w.heap.size, 3, none⟩ = some (.int .i64 C.nd.z1) := HBX.out.cell 3
  have o4 : W0.cell? ⟨w.heap.size, 4, none⟩ = some (.int .i64 C.nd.z2) := HBX.out.cell 4
  have o5 : W0.cell? ⟨w.heap.size, 5, none⟩ = some (.slice a2 C.nd.ls.length c2) := HBX.out.cell 5
  have o6 : W0.cell? ⟨w.heap.size, 6, none⟩ = some (.slice a3 C.nd.ts.length c3) := HBX.out.cell 6
  go_wp2_with fail
  refine HCA.out.mono ?_
  rintro e w1 ⟨rfl, hst, hch⟩
  have HST := Lib.hid hst
  have HCH := Lib.hid hch
  clear hst hch
  go_wp2
  go_ret
  exact ⟨rfl, HST.out, (Chg.of_below HB0.out HBW.out).trans HCH.out⟩
set_option maxRecDepth 100000 in
set_option maxHeartbeats 4000000 in
theorem change_2 (b b' : Bk) (r P base : Nat) (vn vt vb : Value) (mn : List NdM) (mt : List TdM) (C : Hd.Cd) (a2 a3 a4 a5 : Option Addr) (c2 c3 c4 c5 : Nat) (w : World) (hs : St w P base b vn vt vb mn mt) (hf : Fine b) (hL : Lists b) (hdn : DeepN w w.heap.size ⟨C.nd, a2, c2, a3, c3⟩) (hfn : FitN C.nd) (hdt : DeepT w w.heap.size ⟨C.td, a4, c4, a5, c5⟩) (hft : FitT C.td) (hk : C.k = 2) (hv : doN b C.na = (b', r)) :
    Calls Tryz.prog 54 #[.pointer (some ⟨P, 0, none⟩), .agg #[.int .u8 (C.k : Nat), .string C.nd.n, .int .i64 C.nd.z0, .int .i64 C.nd.z1, .int .i64 C.nd.z2, .slice a2 C.nd.ls.length c2, .slice a3 C.nd.ts.length c3, .string C.td.n, .int .i64 C.td.z0, .int .i64 C.td.z1, .int .i64 C.td.z2, .slice a4 C.td.ws.length c4, .slice a5 C.td.bs.length c5, .string C.td.g, .string C.td.a, .int .i64 C.td.r, .string C.na, .string C.on, .int .u64 (C.fe : Nat)]] w fun e w' => e = .returned (.int .i64 (r : Nat)) ∧ StE w' P base b' ∧ Chg P base w w' := by
  obtain ⟨W0, hW0⟩ : ∃ W0, W0 = w.alloc (.cells #[.int .u8 (C.k : Nat), .string C.nd.n, .int .i64 C.nd.z0, .int .i64 C.nd.z1, .int .i64 C.nd.z2, .slice a2 C.nd.ls.length c2, .slice a3 C.nd.ts.length c3, .string C.td.n, .int .i64 C.td.z0, .int .i64 C.td.z1, .int .i64 C.td.z2, .slice a4 C.td.ws.length c4, .slice a5 C.td.bs.length c5, .string C.td.g, .string C.td.a, .int .i64 C.td.r, .string C.na, .string C.on, .int .u64 (C.fe : Nat)] 55) := ⟨_, rfl⟩
  have hb0 : Below w.heap.size w W0 := by rw [hW0]; exact al w _
  have hbx : Hd.Bxn W0 w.heap.size [.int .u8 (C.k : Nat), .string C.nd.n, .int .i64 C.nd.z0, .int .i64 C.nd.z1, .int .i64 C.nd.z2, .slice a2 C.nd.ls.length c2, .slice a3 C.nd.ts.length c3, .string C.td.n, .int .i64 C.td.z0, .int .i64 C.td.z1, .int .i64 C.td.z2, .slice a4 C.td.ws.length c4, .slice a5 C.td.bs.length c5, .string C.td.g, .string C.td.a, .int .i64 C.td.r, .string C.na, .string C.on, .int .u64 (C.fe : Nat)] := by rw [hW0]; exact Hd.Bxn.made w [.int .u8 (C.k : Nat), .string C.nd.n, .int .i64 C.nd.z0, .int .i64 C.nd.z1, .int .i64 C.nd.z2, .slice a2 C.nd.ls.length c2, .slice a3 C.nd.ts.length c3, .string C.td.n, .int .i64 C.td.z0, .int .i64 C.td.z1, .int .i64 C.td.z2, .slice a4 C.td.ws.length c4, .slice a5 C.td.bs.length c5, .string C.td.g, .string C.td.a, .int .i64 C.td.r, .string C.na, .string C.on, .int .u64 (C.fe : Nat)] 55
  have HCA : Hid (Calls Tryz.prog 100 #[.pointer (some ⟨P, 0, none⟩), .string C.na] W0 fun e w' => e = .returned (.int .i64 (r : Nat)) ∧ StE w' P base b' ∧ Chg P base W0 w') := drpn b b' r P base vn vt vb mn mt C.na W0 (hs.keep hb0) hf hL.rn hv
  have HBW := Lib.hid hs.bw
  have HB0 := Lib.hid hb0
  have HBX : Hid (Hd.Bxn W0 w.heap.size [.int .u8 (C.k : Nat), .string C.nd.n, .int .i64 C.nd.z0, .int .i64 C.nd.z1, .int .i64 C.nd.z2, .slice a2 C.nd.ls.length c2, .slice a3 C.nd.ts.length c3, .string C.td.n, .int .i64 C.td.z0, .int .i64 C.td.z1, .int .i64 C.td.z2, .slice a4 C.td.ws.length c4, .slice a5 C.td.bs.length c5, .string C.td.g, .string C.td.a, .int .i64 C.td.r, .string C.na, .string C.on, .int .u64 (C.fe : Nat)]) := hbx
  have HW := Lib.hid hW0
  have HK := Lib.hid hk
  clear hW0 hb0 hbx hs hf hL hdn hfn hdt hft hv hk
  go_enter Tryz.func54, Tryz.ntmps54
  go_upto_region 1 with fail
  rw [← HW.out]
  have o0 : W0.cell? ⟨w.heap.size, 0, none⟩ = some (.int .u8 2) := by have h := HBX.out.cell 0; rw [HK.out] at h; exact h
  have o16 : W0.cell? ⟨w.heap.size, 16, none⟩ = some (.string C.na) := HBX.out.cell 16
  go_wp2_with fail
  refine HCA.out.mono ?_
  rintro e w1 ⟨rfl, hst, hch⟩
  have HST := Lib.hid hst
  have HCH := Lib.hid hch
  clear hst hch
  go_wp2
  go_ret
  exact ⟨rfl, HST.out, (Chg.of_below HB0.out HBW.out).trans HCH.out⟩
set_option maxRecDepth 100000 in
set_option maxHeartbeats 4000000 in
theorem change_3 (b b' : Bk) (r P base : Nat) (vn vt vb : Value) (mn : List NdM) (mt : List TdM) (C : Hd.Cd) (a2 a3 a4 a5 : Option Addr) (c2 c3 c4 c5 : Nat) (w : World) (hs : St w P base b vn vt vb mn mt) (hf : Fine b) (hL : Lists b) (hdn : DeepN w w.heap.size ⟨C.nd, a2, c2, a3, c3⟩) (hfn : FitN C.nd) (hdt : DeepT w w.heap.size ⟨C.td, a4, c4, a5, c5⟩) (hft : FitT C.td) (hk : C.k = 3) (hv : adT b C.td = (b', r)) :
    Calls Tryz.prog 54 #[.pointer (some ⟨P, 0, none⟩), .agg #[.int .u8 (C.k : Nat), .string C.nd.n, .int .i64 C.nd.z0, .int .i64 C.nd.z1, .int .i64 C.nd.z2, .slice a2 C.nd.ls.length c2, .slice a3 C.nd.ts.length c3, .string C.td.n, .int .i64 C.td.z0, .int .i64 C.td.z1, .int .i64 C.td.z2, .slice a4 C.td.ws.length c4, .slice a5 C.td.bs.length c5, .string C.td.g, .string C.td.a, .int .i64 C.td.r, .string C.na, .string C.on, .int .u64 (C.fe : Nat)]] w fun e w' => e = .returned (.int .i64 (r : Nat)) ∧ StE w' P base b' ∧ Chg P base w w' := by
  obtain ⟨W0, hW0⟩ : ∃ W0, W0 = w.alloc (.cells #[.int .u8 (C.k : Nat), .string C.nd.n, .int .i64 C.nd.z0, .int .i64 C.nd.z1, .int .i64 C.nd.z2, .slice a2 C.nd.ls.length c2, .slice a3 C.nd.ts.length c3, .string C.td.n, .int .i64 C.td.z0, .int .i64 C.td.z1, .int .i64 C.td.z2, .slice a4 C.td.ws.length c4, .slice a5 C.td.bs.length c5, .string C.td.g, .string C.td.a, .int .i64 C.td.r, .string C.na, .string C.on, .int .u64 (C.fe : Nat)] 55) := ⟨_, rfl⟩
  have hb0 : Below w.heap.size w W0 := by rw [hW0]; exact al w _
  have hbx : Hd.Bxn W0 w.heap.size [.int .u8 (C.k : Nat), .string C.nd.n, .int .i64 C.nd.z0, .int .i64 C.nd.z1, .int .i64 C.nd.z2, .slice a2 C.nd.ls.length c2, .slice a3 C.nd.ts.length c3, .string C.td.n, .int .i64 C.td.z0, .int .i64 C.td.z1, .int .i64 C.td.z2, .slice a4 C.td.ws.length c4, .slice a5 C.td.bs.length c5, .string C.td.g, .string C.td.a, .int .i64 C.td.r, .string C.na, .string C.on, .int .u64 (C.fe : Nat)] := by rw [hW0]; exact Hd.Bxn.made w [.int .u8 (C.k : Nat), .string C.nd.n, .int .i64 C.nd.z0, .int .i64 C.nd.z1, .int .i64 C.nd.z2, .slice a2 C.nd.ls.length c2, .slice a3 C.nd.ts.length c3, .string C.td.n, .int .i64 C.td.z0, .int .i64 C.td.z1, .int .i64 C.td.z2, .slice a4 C.td.ws.length c4, .slice a5 C.td.bs.length c5, .string C.td.g, .string C.td.a, .int .i64 C.td.r, .string C.na, .string C.on, .int .u64 (C.fe : Nat)] 55
  have HCA : Hid (Calls Tryz.prog 101 #[.pointer (some ⟨P, 0, none⟩), .agg #[.string C.td.n, .int .i64 C.td.z0, .int .i64 C.td.z1, .int .i64 C.td.z2, .slice a4 C.td.ws.length c4, .slice a5 C.td.bs.length c5, .string C.td.g, .string C.td.a, .int .i64 C.td.r]] W0 fun e w' => e = .returned (.int .i64 (r : Nat)) ∧ StE w' P base b' ∧ Chg P base W0 w') := addn_t b b' r P base vn vt vb mn mt ⟨C.td, a4, c4, a5, c5⟩ W0 (hs.keep hb0) hf hL.rt (hdt.on hb0) hft hv
  have HBW := Lib.hid hs.bw
  have HB0 := Lib.hid hb0
  have HBX : Hid (Hd.Bxn W0 w.heap.size [.int .u8 (C.k : Nat), .string C.nd.n, .int .i64 C.nd.z0, .int .i64 C.nd.z1, .int .i64 C.nd.z2, .slice a2 C.nd.ls.length c2, .slice a3 C.nd.ts.length c3, .string C.td.n, .int .i64 C.td.z0, .int .i64 C.td.z1, .int .i64 C.td.z2, .slice a4 C.td.ws.length c4, .slice a5 C.td.bs.length c5, .string C.td.g, .string C.td.a, .int .i64 C.td.r, .string C.na, .string C.on, .int .u64 (C.fe : Nat)]) := hbx
  have HW := Lib.hid hW0
  have HK := Lib.hid hk
  clear hW0 hb0 hbx hs hf hL hdn hfn hdt hft hv hk
  go_enter Tryz.func54, Tryz.ntmps54
  go_upto_region 1 with fail
  rw [← HW.out]
  have o0 : W0.cell? ⟨w.heap.size, 0, none⟩ = some (.int .u8 3) := by have h := HBX.out.cell 0; rw [HK.out] at h; exact h
  have o7 : W0.cell? ⟨w.heap.size, 7, none⟩ = some (.string C.td.n) := HBX.out.cell 7
  have o8 : W0.cell? ⟨w.heap.size, 8, none⟩ = some (.int .i64 C.td.z0) := HBX.out.cell 8
  have o9 : W0.cell? ⟨w.heap.size, 9, none⟩ = some (.int .i64 C.td.z1) := HBX.out.cell 9
  have o10 : W0.cell? ⟨w.heap.size, 10, none⟩ = some (.int .i64 C.td.z2) := HBX.out.cell 10
  have o11 : W0.cell? ⟨w.heap.size, 11, none⟩ = some (.slice a4 C.td.ws.length c4) := HBX.out.cell 11
  have o12 : W0.cell? ⟨w.heap.size, 12, none⟩ = some (.slice a5 C.td.bs.length c5) := HBX.out.cell 12
  have o13 : W0.cell? ⟨w.heap.size, 13, none⟩ = some (.string C.td.g) := HBX.out.cell 13
  have o14 : W0.cell? ⟨w.heap.size, 14, none⟩ = some (.string C.td.a) := HBX.out.cell 14
  have o15 : W0.cell? ⟨w.heap.size, 15, none⟩ = some (.int .i64 C.td.r) := HBX.out.cell 15
  go_wp2_with fail
  refine HCA.out.mono ?_
  rintro e w1 ⟨rfl, hst, hch⟩
  have HST := Lib.hid hst
  have HCH := Lib.hid hch
  clear hst hch
  go_wp2
  go_ret
  exact ⟨rfl, HST.out, (Chg.of_below HB0.out HBW.out).trans HCH.out⟩
set_option maxRecDepth 100000 in
set_option maxHeartbeats 4000000 in
theorem change_4 (b b' : Bk) (r P base : Nat) (vn vt vb : Value) (mn : List NdM) (mt : List TdM) (C : Hd.Cd) (a2 a3 a4 a5 : Option Addr) (c2 c3 c4 c5 : Nat) (w : World) (hs : St w P base b vn vt vb mn mt) (hf : Fine b) (hL : Lists b) (hdn : DeepN w w.heap.size ⟨C.nd, a2, c2, a3, c3⟩) (hfn : FitN C.nd) (hdt : DeepT w w.heap.size ⟨C.td, a4, c4, a5, c5⟩) (hft : FitT C.td) (hk : C.k = 4) (hv : doT b C.na = (b', r)) :
    Calls Tryz.prog 54 #[.pointer (some ⟨P, 0, none⟩), .agg #[.int .u8 (C.k : Nat), .string C.nd.n, .int .i64 C.nd.z0, .int .i64 C.nd.z1, .int .i64 C.nd.z2, .slice a2 C.nd.ls.length c2, .slice a3 C.nd.ts.length c3, .string C.td.n, .int .i64 C.td.z0, .int .i64 C.td.z1, .int .i64 C.td.z2, .slice a4 C.td.ws.length c4, .slice a5 C.td.bs.length c5, .string C.td.g, .string C.td.a, .int .i64 C.td.r, .string C.na, .string C.on, .int .u64 (C.fe : Nat)]] w fun e w' => e = .returned (.int .i64 (r : Nat)) ∧ StE w' P base b' ∧ Chg P base w w' := by
  obtain ⟨W0, hW0⟩ : ∃ W0, W0 = w.alloc (.cells #[.int .u8 (C.k : Nat), .string C.nd.n, .int .i64 C.nd.z0, .int .i64 C.nd.z1, .int .i64 C.nd.z2, .slice a2 C.nd.ls.length c2, .slice a3 C.nd.ts.length c3, .string C.td.n, .int .i64 C.td.z0, .int .i64 C.td.z1, .int .i64 C.td.z2, .slice a4 C.td.ws.length c4, .slice a5 C.td.bs.length c5, .string C.td.g, .string C.td.a, .int .i64 C.td.r, .string C.na, .string C.on, .int .u64 (C.fe : Nat)] 55) := ⟨_, rfl⟩
  have hb0 : Below w.heap.size w W0 := by rw [hW0]; exact al w _
  have hbx : Hd.Bxn W0 w.heap.size [.int .u8 (C.k : Nat), .string C.nd.n, .int .i64 C.nd.z0, .int .i64 C.nd.z1, .int .i64 C.nd.z2, .slice a2 C.nd.ls.length c2, .slice a3 C.nd.ts.length c3, .string C.td.n, .int .i64 C.td.z0, .int .i64 C.td.z1, .int .i64 C.td.z2, .slice a4 C.td.ws.length c4, .slice a5 C.td.bs.length c5, .string C.td.g, .string C.td.a, .int .i64 C.td.r, .string C.na, .string C.on, .int .u64 (C.fe : Nat)] := by rw [hW0]; exact Hd.Bxn.made w [.int .u8 (C.k : Nat), .string C.nd.n, .int .i64 C.nd.z0, .int .i64 C.nd.z1, .int .i64 C.nd.z2, .slice a2 C.nd.ls.length c2, .slice a3 C.nd.ts.length c3, .string C.td.n, .int .i64 C.td.z0, .int .i64 C.td.z1, .int .i64 C.td.z2, .slice a4 C.td.ws.length c4, .slice a5 C.td.bs.length c5, .string C.td.g, .string C.td.a, .int .i64 C.td.r, .string C.na, .string C.on, .int .u64 (C.fe : Nat)] 55
  have HCA : Hid (Calls Tryz.prog 102 #[.pointer (some ⟨P, 0, none⟩), .string C.na] W0 fun e w' => e = .returned (.int .i64 (r : Nat)) ∧ StE w' P base b' ∧ Chg P base W0 w') := drpt b b' r P base vn vt vb mn mt C.na W0 (hs.keep hb0) hf hL.rt hL.rb hv
  have HBW := Lib.hid hs.bw
  have HB0 := Lib.hid hb0
  have HBX : Hid (Hd.Bxn W0 w.heap.size [.int .u8 (C.k : Nat), .string C.nd.n, .int .i64 C.nd.z0, .int .i64 C.nd.z1, .int .i64 C.nd.z2, .slice a2 C.nd.ls.length c2, .slice a3 C.nd.ts.length c3, .string C.td.n, .int .i64 C.td.z0, .int .i64 C.td.z1, .int .i64 C.td.z2, .slice a4 C.td.ws.length c4, .slice a5 C.td.bs.length c5, .string C.td.g, .string C.td.a, .int .i64 C.td.r, .string C.na, .string C.on, .int .u64 (C.fe : Nat)]) := hbx
  have HW := Lib.hid hW0
  have HK := Lib.hid hk
  clear hW0 hb0 hbx hs hf hL hdn hfn hdt hft hv hk
  go_enter Tryz.func54, Tryz.ntmps54
  go_upto_region 1 with fail
  rw [← HW.out]
  have o0 : W0.cell? ⟨w.heap.size, 0, none⟩ = some (.int .u8 4) := by have h := HBX.out.cell 0; rw [HK.out] at h; exact h
  have o16 : W0.cell? ⟨w.heap.size, 16, none⟩ = some (.string C.na) := HBX.out.cell 16
  go_wp2_with fail
  refine HCA.out.mono ?_
  rintro e w1 ⟨rfl, hst, hch⟩
  have HST := Lib.hid hst
  have HCH := Lib.hid hch
  clear hst hch
  go_wp2
  go_ret
  exact ⟨rfl, HST.out, (Chg.of_below HB0.out HBW.out).trans HCH.out⟩
set_option maxRecDepth 100000 in
set_option maxHeartbeats 4000000 in
theorem change_5 (b b' : Bk) (r P base : Nat) (vn vt vb : Value) (mn : List NdM) (mt : List TdM) (C : Hd.Cd) (a2 a3 a4 a5 : Option Addr) (c2 c3 c4 c5 : Nat) (w : World) (hs : St w P base b vn vt vb mn mt) (hf : Fine b) (hL : Lists b) (hdn : DeepN w w.heap.size ⟨C.nd, a2, c2, a3, c3⟩) (hfn : FitN C.nd) (hdt : DeepT w w.heap.size ⟨C.td, a4, c4, a5, c5⟩) (hft : FitT C.td) (hk : C.k = 5) (hv : biB b C.na C.on C.fe = (b', r)) :
    Calls Tryz.prog 54 #[.pointer (some ⟨P, 0, none⟩), .agg #[.int .u8 (C.k : Nat), .string C.nd.n, .int .i64 C.nd.z0, .int .i64 C.nd.z1, .int .i64 C.nd.z2, .slice a2 C.nd.ls.length c2, .slice a3 C.nd.ts.length c3, .string C.td.n, .int .i64 C.td.z0, .int .i64 C.td.z1, .int .i64 C.td.z2, .slice a4 C.td.ws.length c4, .slice a5 C.td.bs.length c5, .string C.td.g, .string C.td.a, .int .i64 C.td.r, .string C.na, .string C.on, .int .u64 (C.fe : Nat)]] w fun e w' => e = .returned (.int .i64 (r : Nat)) ∧ StE w' P base b' ∧ Chg P base w w' := by
  obtain ⟨W0, hW0⟩ : ∃ W0, W0 = w.alloc (.cells #[.int .u8 (C.k : Nat), .string C.nd.n, .int .i64 C.nd.z0, .int .i64 C.nd.z1, .int .i64 C.nd.z2, .slice a2 C.nd.ls.length c2, .slice a3 C.nd.ts.length c3, .string C.td.n, .int .i64 C.td.z0, .int .i64 C.td.z1, .int .i64 C.td.z2, .slice a4 C.td.ws.length c4, .slice a5 C.td.bs.length c5, .string C.td.g, .string C.td.a, .int .i64 C.td.r, .string C.na, .string C.on, .int .u64 (C.fe : Nat)] 55) := ⟨_, rfl⟩
  have hb0 : Below w.heap.size w W0 := by rw [hW0]; exact al w _
  have hbx : Hd.Bxn W0 w.heap.size [.int .u8 (C.k : Nat), .string C.nd.n, .int .i64 C.nd.z0, .int .i64 C.nd.z1, .int .i64 C.nd.z2, .slice a2 C.nd.ls.length c2, .slice a3 C.nd.ts.length c3, .string C.td.n, .int .i64 C.td.z0, .int .i64 C.td.z1, .int .i64 C.td.z2, .slice a4 C.td.ws.length c4, .slice a5 C.td.bs.length c5, .string C.td.g, .string C.td.a, .int .i64 C.td.r, .string C.na, .string C.on, .int .u64 (C.fe : Nat)] := by rw [hW0]; exact Hd.Bxn.made w [.int .u8 (C.k : Nat), .string C.nd.n, .int .i64 C.nd.z0, .int .i64 C.nd.z1, .int .i64 C.nd.z2, .slice a2 C.nd.ls.length c2, .slice a3 C.nd.ts.length c3, .string C.td.n, .int .i64 C.td.z0, .int .i64 C.td.z1, .int .i64 C.td.z2, .slice a4 C.td.ws.length c4, .slice a5 C.td.bs.length c5, .string C.td.g, .string C.td.a, .int .i64 C.td.r, .string C.na, .string C.on, .int .u64 (C.fe : Nat)] 55
  have HCA : Hid (Calls Tryz.prog 103 #[.pointer (some ⟨P, 0, none⟩), .agg #[.int .u8 (C.k : Nat), .string C.nd.n, .int .i64 C.nd.z0, .int .i64 C.nd.z1, .int .i64 C.nd.z2, .slice a2 C.nd.ls.length c2, .slice a3 C.nd.ts.length c3, .string C.td.n, .int .i64 C.td.z0, .int .i64 C.td.z1, .int .i64 C.td.z2, .slice a4 C.td.ws.length c4, .slice a5 C.td.bs.length c5, .string C.td.g, .string C.td.a, .int .i64 C.td.r, .string C.na, .string C.on, .int .u64 (C.fe : Nat)]] W0 fun e w' => e = .returned (.int .i64 (r : Nat)) ∧ StE w' P base b' ∧ Chg P base W0 w') := bind_is b b' r P base vn vt vb mn mt C a2 a3 a4 a5 c2 c3 c4 c5 W0 (hs.keep hb0) hf hL hv
  have HBW := Lib.hid hs.bw
  have HB0 := Lib.hid hb0
  have HBX : Hid (Hd.Bxn W0 w.heap.size [.int .u8 (C.k : Nat), .string C.nd.n, .int .i64 C.nd.z0, .int .i64 C.nd.z1, .int .i64 C.nd.z2, .slice a2 C.nd.ls.length c2, .slice a3 C.nd.ts.length c3, .string C.td.n, .int .i64 C.td.z0, .int .i64 C.td.z1, .int .i64 C.td.z2, .slice a4 C.td.ws.length c4, .slice a5 C.td.bs.length c5, .string C.td.g, .string C.td.a, .int .i64 C.td.r, .string C.na, .string C.on, .int .u64 (C.fe : Nat)]) := hbx
  have HW := Lib.hid hW0
  have HK := Lib.hid hk
  clear hW0 hb0 hbx hs hf hL hdn hfn hdt hft hv hk
  go_enter Tryz.func54, Tryz.ntmps54
  go_upto_region 1 with fail
  rw [← HW.out]
  have o0 : W0.cell? ⟨w.heap.size, 0, none⟩ = some (.int .u8 5) := by have h := HBX.out.cell 0; rw [HK.out] at h; exact h
  go_upto_region 11 with fail
  clear o0
  refine wp_region_list ?_
  refine wpList_plain rfl fun K hK => ?_
  go_simp
  refine hK _ _ ?_
  clear hK K
  refine wpList_load_mid rfl 55 (.tmp 3) rfl w.heap.size 0 rfl [.int .u8 (C.k : Nat), .string C.nd.n, .int .i64 C.nd.z0, .int .i64 C.nd.z1, .int .i64 C.nd.z2, .slice a2 C.nd.ls.length c2, .slice a3 C.nd.ts.length c3, .string C.td.n, .int .i64 C.td.z0, .int .i64 C.td.z1, .int .i64 C.td.z2, .slice a4 C.td.ws.length c4, .slice a5 C.td.bs.length c5, .string C.td.g, .string C.td.a, .int .i64 C.td.r, .string C.na, .string C.on, .int .u64 (C.fe : Nat)] _ (HBX.out.range 0) Tryz.underlying55 rfl rfl ?_
  go_wp2_with fail
  refine HCA.out.mono ?_
  rintro e w1 ⟨rfl, hst, hch⟩
  have HST := Lib.hid hst
  have HCH := Lib.hid hch
  clear hst hch
  go_wp2
  go_ret
  exact ⟨rfl, HST.out, (Chg.of_below HB0.out HBW.out).trans HCH.out⟩
set_option maxRecDepth 100000 in
set_option maxHeartbeats 4000000 in
theorem change_6 (b b' : Bk) (r P base : Nat) (vn vt vb : Value) (mn : List NdM) (mt : List TdM) (C : Hd.Cd) (a2 a3 a4 a5 : Option Addr) (c2 c3 c4 c5 : Nat) (w : World) (hs : St w P base b vn vt vb mn mt) (hf : Fine b) (hL : Lists b) (hdn : DeepN w w.heap.size ⟨C.nd, a2, c2, a3, c3⟩) (hfn : FitN C.nd) (hdt : DeepT w w.heap.size ⟨C.td, a4, c4, a5, c5⟩) (hft : FitT C.td) (hk : C.k = 6) (hv : frB b C.na = (b', r)) :
    Calls Tryz.prog 54 #[.pointer (some ⟨P, 0, none⟩), .agg #[.int .u8 (C.k : Nat), .string C.nd.n, .int .i64 C.nd.z0, .int .i64 C.nd.z1, .int .i64 C.nd.z2, .slice a2 C.nd.ls.length c2, .slice a3 C.nd.ts.length c3, .string C.td.n, .int .i64 C.td.z0, .int .i64 C.td.z1, .int .i64 C.td.z2, .slice a4 C.td.ws.length c4, .slice a5 C.td.bs.length c5, .string C.td.g, .string C.td.a, .int .i64 C.td.r, .string C.na, .string C.on, .int .u64 (C.fe : Nat)]] w fun e w' => e = .returned (.int .i64 (r : Nat)) ∧ StE w' P base b' ∧ Chg P base w w' := by
  obtain ⟨W0, hW0⟩ : ∃ W0, W0 = w.alloc (.cells #[.int .u8 (C.k : Nat), .string C.nd.n, .int .i64 C.nd.z0, .int .i64 C.nd.z1, .int .i64 C.nd.z2, .slice a2 C.nd.ls.length c2, .slice a3 C.nd.ts.length c3, .string C.td.n, .int .i64 C.td.z0, .int .i64 C.td.z1, .int .i64 C.td.z2, .slice a4 C.td.ws.length c4, .slice a5 C.td.bs.length c5, .string C.td.g, .string C.td.a, .int .i64 C.td.r, .string C.na, .string C.on, .int .u64 (C.fe : Nat)] 55) := ⟨_, rfl⟩
  have hb0 : Below w.heap.size w W0 := by rw [hW0]; exact al w _
  have hbx : Hd.Bxn W0 w.heap.size [.int .u8 (C.k : Nat), .string C.nd.n, .int .i64 C.nd.z0, .int .i64 C.nd.z1, .int .i64 C.nd.z2, .slice a2 C.nd.ls.length c2, .slice a3 C.nd.ts.length c3, .string C.td.n, .int .i64 C.td.z0, .int .i64 C.td.z1, .int .i64 C.td.z2, .slice a4 C.td.ws.length c4, .slice a5 C.td.bs.length c5, .string C.td.g, .string C.td.a, .int .i64 C.td.r, .string C.na, .string C.on, .int .u64 (C.fe : Nat)] := by rw [hW0]; exact Hd.Bxn.made w [.int .u8 (C.k : Nat), .string C.nd.n, .int .i64 C.nd.z0, .int .i64 C.nd.z1, .int .i64 C.nd.z2, .slice a2 C.nd.ls.length c2, .slice a3 C.nd.ts.length c3, .string C.td.n, .int .i64 C.td.z0, .int .i64 C.td.z1, .int .i64 C.td.z2, .slice a4 C.td.ws.length c4, .slice a5 C.td.bs.length c5, .string C.td.g, .string C.td.a, .int .i64 C.td.r, .string C.na, .string C.on, .int .u64 (C.fe : Nat)] 55
  have HCA : Hid (Calls Tryz.prog 104 #[.pointer (some ⟨P, 0, none⟩), .string C.na] W0 fun e w' => e = .returned (.int .i64 (r : Nat)) ∧ StE w' P base b' ∧ Chg P base W0 w') := free_is b b' r P base vn vt vb mn mt C.na W0 (hs.keep hb0) hf hL.rt hL.rb hv
  have HBW := Lib.hid hs.bw
  have HB0 := Lib.hid hb0
  have HBX : Hid (Hd.Bxn W0 w.heap.size [.int .u8 (C.k : Nat), .string C.nd.n, .int .i64 C.nd.z0, .int .i64 C.nd.z1, .int .i64 C.nd.z2, .slice a2 C.nd.ls.length c2, .slice a3 C.nd.ts.length c3, .string C.td.n, .int .i64 C.td.z0, .int .i64 C.td.z1, .int .i64 C.td.z2, .slice a4 C.td.ws.length c4, .slice a5 C.td.bs.length c5, .string C.td.g, .string C.td.a, .int .i64 C.td.r, .string C.na, .string C.on, .int .u64 (C.fe : Nat)]) := hbx
  have HW := Lib.hid hW0
  have HK := Lib.hid hk
  clear hW0 hb0 hbx hs hf hL hdn hfn hdt hft hv hk
  go_enter Tryz.func54, Tryz.ntmps54
  go_upto_region 1 with fail
  rw [← HW.out]
  have o0 : W0.cell? ⟨w.heap.size, 0, none⟩ = some (.int .u8 6) := by have h := HBX.out.cell 0; rw [HK.out] at h; exact h
  have o16 : W0.cell? ⟨w.heap.size, 16, none⟩ = some (.string C.na) := HBX.out.cell 16
  go_wp2_with fail
  refine HCA.out.mono ?_
  rintro e w1 ⟨rfl, hst, hch⟩
  have HST := Lib.hid hst
  have HCH := Lib.hid hch
  clear hst hch
  go_wp2
  go_ret
  exact ⟨rfl, HST.out, (Chg.of_below HB0.out HBW.out).trans HCH.out⟩
theorem change_is (b b' : Bk) (r P base : Nat) (vn vt vb : Value) (mn : List NdM) (mt : List TdM) (C : Hd.Cd) (a2 a3 a4 a5 : Option Addr) (c2 c3 c4 c5 : Nat) (w : World) (hs : St w P base b vn vt vb mn mt) (hf : Fine b) (hL : Lists b) (hdn : DeepN w w.heap.size ⟨C.nd, a2, c2, a3, c3⟩) (hfn : FitN C.nd) (hdt : DeepT w w.heap.size ⟨C.td, a4, c4, a5, c5⟩) (hft : FitT C.td) (hk : 1 ≤ C.k ∧ C.k ≤ 6) (hv : chV b C = (b', r)) :
    Calls Tryz.prog 54 #[.pointer (some ⟨P, 0, none⟩), .agg #[.int .u8 (C.k : Nat), .string C.nd.n, .int .i64 C.nd.z0, .int .i64 C.nd.z1, .int .i64 C.nd.z2, .slice a2 C.nd.ls.length c2, .slice a3 C.nd.ts.length c3, .string C.td.n, .int .i64 C.td.z0, .int .i64 C.td.z1, .int .i64 C.td.z2, .slice a4 C.td.ws.length c4, .slice a5 C.td.bs.length c5, .string C.td.g, .string C.td.a, .int .i64 C.td.r, .string C.na, .string C.on, .int .u64 (C.fe : Nat)]] w fun e w' => e = .returned (.int .i64 (r : Nat)) ∧ StE w' P base b' ∧ Chg P base w w' := by
  unfold chV at hv
  by_cases e1 : C.k = 1
  · rw [if_pos e1] at hv; exact change_1 b b' r P base vn vt vb mn mt C a2 a3 a4 a5 c2 c3 c4 c5 w hs hf hL hdn hfn hdt hft e1 hv
  rw [if_neg e1] at hv
  by_cases e2 : C.k = 2
  · rw [if_pos e2] at hv; exact change_2 b b' r P base vn vt vb mn mt C a2 a3 a4 a5 c2 c3 c4 c5 w hs hf hL hdn hfn hdt hft e2 hv
  rw [if_neg e2] at hv
  by_cases e3 : C.k = 3
  · rw [if_pos e3] at hv; exact change_3 b b' r P base vn vt vb mn mt C a2 a3 a4 a5 c2 c3 c4 c5 w hs hf hL hdn hfn hdt hft e3 hv
  rw [if_neg e3] at hv
  by_cases e4 : C.k = 4
  · rw [if_pos e4] at hv; exact change_4 b b' r P base vn vt vb mn mt C a2 a3 a4 a5 c2 c3 c4 c5 w hs hf hL hdn hfn hdt hft e4 hv
  rw [if_neg e4] at hv
  by_cases e5 : C.k = 5
  · rw [if_pos e5] at hv; exact change_5 b b' r P base vn vt vb mn mt C a2 a3 a4 a5 c2 c3 c4 c5 w hs hf hL hdn hfn hdt hft e5 hv
  rw [if_neg e5] at hv
  exact change_6 b b' r P base vn vt vb mn mt C a2 a3 a4 a5 c2 c3 c4 c5 w hs hf hL hdn hfn hdt hft (by omega) hv
end Bo
end Go.Proofs.YthbmnkeigmbbdaaGreat

/-
  A BOOK ANEW: book.clone.
-/
namespace Go.Proofs.YthbmnkeigmbbdaaGreat
open Go.RowKit Go.Lib
namespace Bo
open Rw
set_option linter.unusedVariables false

theorem bkC_one {a a' a'' : Option Addr} {n n' n'' c c' c'' : Nat} (b : Bk) : ∀ u ∈ bkC (.slice a n c) (.slice a' n' c') (.slice a'' n'' c'') b, u.oneCell' = true := by
  intro u hu
  simp only [bkC, List.mem_cons, List.not_mem_nil, or_false] at hu
  rcases hu with rfl | rfl | rfl | rfl <;> rfl
/-- A book's copy: its lists in rows made for it. -/
def ClnB (b : Bk) (w : World) (e : Ending) (w' : World) : Prop := ∃ vn vt vb mn mt, e = .returned (.agg #[vn, vt, vb, .int .u64 (b.fe : Nat)]) ∧ b.ns = mn.map (·.nd) ∧ b.ts = mt.map (·.td) ∧ OwnL w' w.heap.size vn vt vb mn mt b.bs ∧ Below w.heap.size w w'
theorem ClnB.mk {b : Bk} {w w' : World} {vn vt vb : Value} (mn : List NdM) (mt : List TdM) (h1 : b.ns = mn.map (·.nd)) (h2 : b.ts = mt.map (·.td)) (h3 : OwnL w' w.heap.size vn vt vb mn mt b.bs) (h4 : Below w.heap.size w w') : ClnB b w (.returned (.agg #[vn, vt, vb, .int .u64 (b.fe : Nat)])) w' := ⟨vn, vt, vb, mn, mt, rfl, h1, h2, h3, h4⟩
set_option maxRecDepth 100000 in
set_option maxHeartbeats 4000000 in
theorem clone_bk (b : Bk) (vn vt vb : Value) (w : World) (hB : Books w w.heap.size vn vt vb b) (hf : Fine b) :
    Calls Tryz.prog 51 #[.agg #[vn, vt, vb, .int .u64 (b.fe : Nat)]] w (ClnB b w) := by
  obtain ⟨W0, hW0⟩ : ∃ W0, W0 = (w.alloc (.cells #[vn, vt, vb, .int .u64 (b.fe : Nat)] 27)).alloc (.cells #[.slice none 0 0, .slice none 0 0, .slice none 0 0, .int .u64 0] 27) := ⟨_, rfl⟩
  have hb0 : Below w.heap.size w W0 := by rw [hW0]; exact ((Below.refl _ w).alloc (Nat.le_refl _) _).alloc (by simp) _
  have hz0 : W0.heap.size = w.heap.size + 1 + 1 := by rw [hW0]; simp
  have hbx : Hd.Bxn W0 w.heap.size [vn, vt, vb, .int .u64 (b.fe : Nat)] := by
    rw [hW0]
    exact (Hd.Bxn.made w [vn, vt, vb, .int .u64 (b.fe : Nat)] 27).below (al _ _)
  have hrs : Hd.Bxn W0 (w.heap.size + 1) [.slice none 0 0, .slice none 0 0, .slice none 0 0, .int .u64 0] := by
    rw [hW0]
    have := Hd.Bxn.made (w.alloc (.cells #[vn, vt, vb, .int .u64 (b.fe : Nat)] 27)) [.slice none 0 0, .slice none 0 0, .slice none 0 0, .int .u64 0] 27
    rwa [World.size_alloc] at this
  obtain ⟨m, hm, hsm, hdm, hlm⟩ := hB.hn
  obtain ⟨n, hn, hsn, hdn, hln⟩ := hB.ht
  have HEN : Hid (Calls Tryz.prog 90 #[vn, .func (.func 91) #[] #[]] W0 (EachN W0 m)) := each_n vn m W0 (hsm.on hb0) (fun x hx => ⟨(hdm x hx).1.on hb0, (hdm x hx).2⟩) (by rw [hm, List.length_map] at hlm; exact hlm)
  have HET : Hid (∀ z, Hid (Below w.heap.size w z) → Calls Tryz.prog 92 #[vt, .func (.func 93) #[] #[]] z (EachT z n)) := fun z hz => each_t vt n z (hsn.on hz.out) (fun x hx => ⟨(hdn x hx).1.on hz.out, (hdn x hx).2⟩) (by rw [hn, List.length_map] at hln; exact hln)
  have HEB : Hid (∀ z, Hid (Below w.heap.size w z) → Calls Tryz.prog 94 #[vb] z fun e w' => ∃ v', e = .returned v' ∧ Own w' z.heap.size 106 v' b.bs ∧ Below z.heap.size z w') := fun z hz => clone_b vb b.bs z (hB.hb.1.on hz.out) hB.hb.2.2
  obtain ⟨an, cn, hvn⟩ := hB.hn.slice
  obtain ⟨at', ct, hvt⟩ := hB.ht.slice
  obtain ⟨ab, cb, hvb⟩ := hB.hb.slice
  subst hvn hvt hvb
  have HM := Lib.hid hm
  have HN := Lib.hid hn
  have HW := Lib.hid hW0
  have HB0 := Lib.hid hb0
  have HSZ := Lib.hid hz0
  have HBX := Lib.hid hbx
  have HRS := Lib.hid hrs
  clear hW0 hb0 hz0 hbx hrs hB hf hm hn hsm hsn hdm hdn hlm hln
  go_enter Tryz.func51, Tryz.ntmps51
  go_upto_region 1 with fail
  rw [← HW.out]
  have b0 : W0.cell? ⟨w.heap.size, 0, none⟩ = some (.slice an b.ns.length cn) := HBX.out.cell 0
  go_wp2_with fail
  refine HEN.out.mono ?_
  rintro e w1 ⟨v1, m1, rfl, he1, ho1, hd1, hb1⟩
  obtain ⟨a1, c1, rfl⟩ := ho1.slice
  have hx1 : Hd.Bxn w1 w.heap.size [.slice an b.ns.length cn, .slice at' b.ts.length ct, .slice ab b.bs.length cb, .int .u64 (b.fe : Nat)] := HBX.out.below hb1
  have q0 : w1.cell? ⟨w.heap.size, 0, none⟩ = some (.slice an b.ns.length cn) := hx1.cell 0
  have f0 := hx1.fz 0
  have hg2 := grown_setCell w1 w.heap.size 0 (.slice a1 m1.length c1)
  have H2 : Hid (Below w.heap.size w (w1.setCell ⟨w.heap.size, 0, none⟩ (.slice a1 m1.length c1))) := (HB0.out.trans (hb1.mono HB0.out.size)).setCell (Nat.le_refl _) _
  have HX2 : Hid (Hd.Bxn (w1.setCell ⟨w.heap.size, 0, none⟩ (.slice a1 m1.length c1)) w.heap.size [.slice a1 m1.length c1, .slice at' b.ts.length ct, .slice ab b.bs.length cb, .int .u64 (b.fe : Nat)]) := hx1.set 0 _
  have HR2 : Hid (Hd.Bxn (w1.setCell ⟨w.heap.size, 0, none⟩ (.slice a1 m1.length c1)) (w.heap.size + 1) [.slice none 0 0, .slice none 0 0, .slice none 0 0, .int .u64 0]) := (HRS.out.below hb1).apart (by omega) _ _
  have HO2 : Hid (Own (w1.setCell ⟨w.heap.size, 0, none⟩ (.slice a1 m1.length c1)) (w.heap.size + 1 + 1) 45 (.slice a1 m1.length c1) m1) := own_far (ho1.le (by rw [HSZ.out]; omega)) hg2 (by omega)
  have HD2 : Hid (∀ y ∈ m1, OwnN (w1.setCell ⟨w.heap.size, 0, none⟩ (.slice a1 m1.length c1)) (w.heap.size + 1 + 1) y) := fun y hy => ⟨own_far ((hd1 y hy).1.le (by rw [HSZ.out]; omega)) hg2 (by omega), own_far ((hd1 y hy).2.le (by rw [HSZ.out]; omega)) hg2 (by omega)⟩
  have HS2 : Hid (w.heap.size + 1 + 1 ≤ (w1.setCell ⟨w.heap.size, 0, none⟩ (.slice a1 m1.length c1)).heap.size) := Lib.hid (by have := hb1.size; rw [HSZ.out] at this; simpa [World.setCell] using this)
  have HE1 := Lib.hid he1
  clear b0 ho1 hd1 hb1 he1 hx1 hg2 HBX HRS HEN
  go_upto_region 2 with fail
  generalize w1.setCell ⟨w.heap.size, 0, none⟩ (.slice a1 m1.length c1) = w2 at *
  have b1 : w2.cell? ⟨w.heap.size, 1, none⟩ = some (.slice at' b.ts.length ct) := HX2.out.cell 1
  clear q0 f0
  go_wp2_with fail
  refine (HET.out _ H2).mono ?_
  rintro e w3 ⟨v3, m3, rfl, he3, ho3, hd3, hb3⟩
  obtain ⟨a3, c3, rfl⟩ := ho3.slice
  have hx3 : Hd.Bxn w3 w.heap.size [.slice a1 m1.length c1, .slice at' b.ts.length ct, .slice ab b.bs.length cb, .int .u64 (b.fe : Nat)] := HX2.out.below hb3
  have q1 : w3.cell? ⟨w.heap.size, 1, none⟩ = some (.slice at' b.ts.length ct) := hx3.cell 1
  have f1 := hx3.fz 1
  have hg4 := grown_setCell w3 w.heap.size 1 (.slice a3 m3.length c3)
  have H4 : Hid (Below w.heap.size w (w3.setCell ⟨w.heap.size, 1, none⟩ (.slice a3 m3.length c3))) := (H2.out.trans (hb3.mono H2.out.size)).setCell (Nat.le_refl _) _
  have HX4 : Hid (Hd.Bxn (w3.setCell ⟨w.heap.size, 1, none⟩ (.slice a3 m3.length c3)) w.heap.size [.slice a1 m1.length c1, .slice a3 m3.length c3, .slice ab b.bs.length cb, .int .u64 (b.fe : Nat)]) := hx3.set 1 _
  have HR4 : Hid (Hd.Bxn (w3.setCell ⟨w.heap.size, 1, none⟩ (.slice a3 m3.length c3)) (w.heap.size + 1) [.slice none 0 0, .slice none 0 0, .slice none 0 0, .int .u64 0]) := (HR2.out.below hb3).apart (by omega) _ _
  have HO4 : Hid (Own (w3.setCell ⟨w.heap.size, 1, none⟩ (.slice a3 m3.length c3)) (w.heap.size + 1 + 1) 45 (.slice a1 m1.length c1) m1) := own_far (HO2.out.keep hb3) hg4 (by omega)
  have HD4 : Hid (∀ y ∈ m1, OwnN (w3.setCell ⟨w.heap.size, 1, none⟩ (.slice a3 m3.length c3)) (w.heap.size + 1 + 1) y) := fun y hy => ⟨own_far ((HD2.out y hy).1.keep hb3) hg4 (by omega), own_far ((HD2.out y hy).2.keep hb3) hg4 (by omega)⟩
  have HP4 : Hid (Own (w3.setCell ⟨w.heap.size, 1, none⟩ (.slice a3 m3.length c3)) (w.heap.size + 1 + 1) 42 (.slice a3 m3.length c3) m3) := own_far (ho3.le HS2.out) hg4 (by omega)
  have HT4 : Hid (∀ y ∈ m3, OwnT (w3.setCell ⟨w.heap.size, 1, none⟩ (.slice a3 m3.length c3)) (w.heap.size + 1 + 1) y) := fun y hy => ⟨own_far ((hd3 y hy).1.le HS2.out) hg4 (by omega), own_far ((hd3 y hy).2.le HS2.out) hg4 (by omega)⟩
  have HS4 : Hid (w.heap.size + 1 + 1 ≤ (w3.setCell ⟨w.heap.size, 1, none⟩ (.slice a3 m3.length c3)).heap.size) := Lib.hid (by have := hb3.size; have h2 := HS2.out; simp only [World.setCell, Array.size_modify]; omega)
  have HE3 := Lib.hid he3
  clear b1 ho3 hd3 hb3 he3 hx3 hg4 HX2 HR2 HO2 HD2 HS2 H2
  go_upto_region 3 with fail
  generalize w3.setCell ⟨w.heap.size, 1, none⟩ (.slice a3 m3.length c3) = w4 at *
  have b2 : w4.cell? ⟨w.heap.size, 2, none⟩ = some (.slice ab b.bs.length cb) := HX4.out.cell 2
  clear q1 f1
  go_wp2_with fail
  refine (HEB.out _ H4).mono ?_
  rintro e w5 ⟨v5, rfl, ho5, hb5⟩
  obtain ⟨a5, c5, rfl⟩ := ho5.slice
  have hx5 : Hd.Bxn w5 w.heap.size [.slice a1 m1.length c1, .slice a3 m3.length c3, .slice ab b.bs.length cb, .int .u64 (b.fe : Nat)] := HX4.out.below hb5
  have q2 : w5.cell? ⟨w.heap.size, 2, none⟩ = some (.slice ab b.bs.length cb) := hx5.cell 2
  have f2 := hx5.fz 2
  have hg6 := grown_setCell w5 w.heap.size 2 (.slice a5 b.bs.length c5)
  have H6 : Hid (Below w.heap.size w (w5.setCell ⟨w.heap.size, 2, none⟩ (.slice a5 b.bs.length c5))) := (H4.out.trans (hb5.mono H4.out.size)).setCell (Nat.le_refl _) _
  have HX6 : Hid (Hd.Bxn (w5.setCell ⟨w.heap.size, 2, none⟩ (.slice a5 b.bs.length c5)) w.heap.size (bkC (.slice a1 m1.length c1) (.slice a3 m3.length c3) (.slice a5 b.bs.length c5) b)) := hx5.set 2 _
  have HR6 : Hid (Hd.Bxn (w5.setCell ⟨w.heap.size, 2, none⟩ (.slice a5 b.bs.length c5)) (w.heap.size + 1) [.slice none 0 0, .slice none 0 0, .slice none 0 0, .int .u64 0]) := (HR4.out.below hb5).apart (by omega) _ _
  have HL6 : Hid (OwnL (w5.setCell ⟨w.heap.size, 2, none⟩ (.slice a5 b.bs.length c5)) (w.heap.size + 1 + 1) (.slice a1 m1.length c1) (.slice a3 m3.length c3) (.slice a5 b.bs.length c5) m1 m3 b.bs) :=
    ⟨own_far (HO4.out.keep hb5) hg6 (by omega), own_far (HP4.out.keep hb5) hg6 (by omega), own_far (ho5.le HS4.out) hg6 (by omega), fun y hy => ⟨own_far ((HD4.out y hy).1.keep hb5) hg6 (by omega), own_far ((HD4.out y hy).2.keep hb5) hg6 (by omega)⟩, fun y hy => ⟨own_far ((HT4.out y hy).1.keep hb5) hg6 (by omega), own_far ((HT4.out y hy).2.keep hb5) hg6 (by omega)⟩⟩
  clear b2 ho5 hb5 hx5 hg6 HX4 HR4 HO4 HD4 HP4 HT4 HS4 H4
  go_upto_region 4 with fail
  generalize w5.setCell ⟨w.heap.size, 2, none⟩ (.slice a5 b.bs.length c5) = w6 at *
  clear q2 f2
  have hth := HR6.out.there 4 rfl
  refine wp_region_list ?_
  refine wpList_load_mid rfl 27 (.tmp 1) rfl w.heap.size 0 rfl (bkC (.slice a1 m1.length c1) (.slice a3 m3.length c3) (.slice a5 b.bs.length c5) b) _ (HX6.out.range 0) Tryz.underlying27 rfl rfl ?_
  refine wpList_store_mid rfl 27 (.tmp 2) (.tmp 15) rfl (w.heap.size + 1) 0 (bkC (.slice a1 m1.length c1) (.slice a3 m3.length c3) (.slice a5 b.bs.length c5) b).toArray rfl rfl hth rfl (all_oneCell_toArray (bkC_one b)) ?_
  rw [show (bkC (.slice a1 m1.length c1) (.slice a3 m3.length c3) (.slice a5 b.bs.length c5) b).toArray.toList = bkC (.slice a1 m1.length c1) (.slice a3 m3.length c3) (.slice a5 b.bs.length c5) b from rfl]
  have HE := Lib.hid (HR6.out.all (bkC (.slice a1 m1.length c1) (.slice a3 m3.length c3) (.slice a5 b.bs.length c5) b) rfl)
  have HBE : Hid (Below w.heap.size w (w6.setCells (w.heap.size + 1) 0 (bkC (.slice a1 m1.length c1) (.slice a3 m3.length c3) (.slice a5 b.bs.length c5) b))) := below_setCells H6.out (by omega) _ _
  have HLE : Hid (OwnL (w6.setCells (w.heap.size + 1) 0 (bkC (.slice a1 m1.length c1) (.slice a3 m3.length c3) (.slice a5 b.bs.length c5) b)) w.heap.size (.slice a1 m1.length c1) (.slice a3 m3.length c3) (.slice a5 b.bs.length c5) m1 m3 b.bs) := (HL6.out.far (grown_setCells _ _ _ _) (by omega)).le (by omega)
  clear hth HR6 HL6 HX6 H6
  generalize w6.setCells (w.heap.size + 1) 0 (bkC (.slice a1 m1.length c1) (.slice a3 m3.length c3) (.slice a5 b.bs.length c5) b) = wE at *
  refine wpList_nil ?_
  go_wp2
  exact Hd.bodyPost_bx rfl (w.heap.size + 1) (bkC (.slice a1 m1.length c1) (.slice a3 m3.length c3) (.slice a5 b.bs.length c5) b) _ rfl rfl HE.out Tryz.underlying27 rfl rfl (ClnB.mk m1 m3 (HM.out.trans HE1.out.symm) (HN.out.trans HE3.out.symm) HLE.out HBE.out)
end Bo
end Go.Proofs.YthbmnkeigmbbdaaGreat

/-
  book.CheckOrder, whatever the kind.
-/
namespace Go.Proofs.YthbmnkeigmbbdaaGreat
open Go.RowKit
namespace Hd
open PM Hc Rg
set_option maxRecDepth 100000 in
set_option maxHeartbeats 1000000 in
theorem co_other (C : Cd) (a2 a3 a4 a5 : Option Addr) (c2 c3 c4 c5 : Nat) (w : World) (e1 : C.k ≠ 1) (e2 : C.k ≠ 2) (e3 : C.k ≠ 3) (e4 : C.k ≠ 4) (e5 : C.k ≠ 5) (e6 : C.k ≠ 6) (e7 : C.k ≠ 7) :
    Calls Tryz.prog 52 #[.agg (orC C (.slice a2 C.nd.ls.length c2) (.slice a3 C.nd.ts.length c3) (.slice a4 C.td.ws.length c4) (.slice a5 C.td.bs.length c5)).toArray] w fun e w' => e = .returned (.int .i64 4) ∧ Below w.heap.size w w' := by
  have HX0 : Hid (Bxn (w.alloc (.cells (orC C (.slice a2 C.nd.ls.length c2) (.slice a3 C.nd.ts.length c3) (.slice a4 C.td.ws.length c4) (.slice a5 C.td.bs.length c5)).toArray 55)) w.heap.size (orC C (.slice a2 C.nd.ls.length c2) (.slice a3 C.nd.ts.length c3) (.slice a4 C.td.ws.length c4) (.slice a5 C.td.bs.length c5))) := Bxn.made w _ _
  have HB0 : Hid (Below w.heap.size w (w.alloc (.cells (orC C (.slice a2 C.nd.ls.length c2) (.slice a3 C.nd.ts.length c3) (.slice a4 C.td.ws.length c4) (.slice a5 C.td.bs.length c5)).toArray 55))) := (Below.refl _ _).alloc (Nat.le_refl _) _
  obtain ⟨CS, hCS⟩ : ∃ CS, CS = (orC C (.slice a2 C.nd.ls.length c2) (.slice a3 C.nd.ts.length c3) (.slice a4 C.td.ws.length c4) (.slice a5 C.td.bs.length c5)).toArray := ⟨_, rfl⟩
  rw [← hCS] at HB0 HX0 ⊢
  clear hCS
  have h1 : ¬ ((C.k : Nat) : Int) = 1 := by omega
  have g1 : (((C.k : Nat) : Int) == 1) = false := by simpa using h1
  clear e1
  have h2 : ¬ ((C.k : Nat) : Int) = 2 := by omega
  have g2 : (((C.k : Nat) : Int) == 2) = false := by simpa using h2
  clear e2
  have h3 : ¬ ((C.k : Nat) : Int) = 3 := by omega
  have g3 : (((C.k : Nat) : Int) == 3) = false := by simpa using h3
  clear e3
  have h4 : ¬ ((C.k : Nat) : Int) = 4 := by omega
  have g4 : (((C.k : Nat) : Int) == 4) = false := by simpa using h4
  clear e4
  have h5 : ¬ ((C.k : Nat) : Int) = 5 := by omega
  have g5 : (((C.k : Nat) : Int) == 5) = false := by simpa using h5
  clear e5
  have h6 : ¬ ((C.k : Nat) : Int) = 6 := by omega
  have g6 : (((C.k : Nat) : Int) == 6) = false := by simpa using h6
  clear e6
  have h7 : ¬ ((C.k : Nat) : Int) = 7 := by omega
  have g7 : (((C.k : Nat) : Int) == 7) = false := by simpa using h7
  clear e7
  go_enter Tryz.func52, Tryz.ntmps52
  go_upto_region 1 with fail
  generalize w.alloc (.cells CS 55) = W0 at *
  have k0 : W0.cell? ⟨w.heap.size, 0, none⟩ = some (.int .u8 (C.k : Nat)) := HX0.out.cell 0
  go_wp2
  go_ret
  exact ⟨rfl, HB0.out⟩
theorem checkOrder_bo (C : Cd) (a2 a3 a4 a5 : Option Addr) (c2 c3 c4 c5 : Nat) (w : World) :
    Calls Tryz.prog 52 #[.agg (orC C (.slice a2 C.nd.ls.length c2) (.slice a3 C.nd.ts.length c3) (.slice a4 C.td.ws.length c4) (.slice a5 C.td.bs.length c5)).toArray] w fun e w' => e = .returned (.int .i64 (coE (coB C) : Nat)) ∧ Below w.heap.size w w' := by
  unfold coB
  by_cases e1 : C.k = 1
  · rw [if_pos e1]; exact co_node C a2 a3 a4 a5 c2 c3 c4 c5 w e1 _ rfl
  rw [if_neg e1]
  by_cases e3 : C.k = 3
  · rw [if_pos e3]; exact co_task C a2 a3 a4 a5 c2 c3 c4 c5 w e3 _ rfl
  rw [if_neg e3]
  by_cases e5 : C.k = 5
  · rw [if_pos e5]; exact co_bind C a2 a3 a4 a5 c2 c3 c4 c5 w e5 _ rfl
  rw [if_neg e5]
  by_cases e2 : C.k = 2
  · rw [if_pos (.inl e2)]; exact co_2 C a2 a3 a4 a5 c2 c3 c4 c5 w e2 _ rfl
  by_cases e4 : C.k = 4
  · rw [if_pos (.inr (.inl e4))]; exact co_4 C a2 a3 a4 a5 c2 c3 c4 c5 w e4 _ rfl
  by_cases e6 : C.k = 6
  · rw [if_pos (.inr (.inr (.inl e6)))]; exact co_6 C a2 a3 a4 a5 c2 c3 c4 c5 w e6 _ rfl
  by_cases e7 : C.k = 7
  · rw [if_pos (.inr (.inr (.inr e7)))]; exact co_7 C a2 a3 a4 a5 c2 c3 c4 c5 w e7 _ rfl
  rw [if_neg (by rintro (h | h | h | h); exact e2 h; exact e4 h; exact e6 h; exact e7 h)]
  exact co_other C a2 a3 a4 a5 c2 c3 c4 c5 w e1 e2 e3 e4 e5 e6 e7
end Hd
end Go.Proofs.YthbmnkeigmbbdaaGreat

/-
  WHAT AN ORDER COMES TO, and the boxes of book.Do.
-/
namespace Go.Proofs.YthbmnkeigmbbdaaGreat
open Go.RowKit Go.Lib
namespace Bo
open Rw
set_option linter.unusedVariables false
/-- What an order comes to at a right book. -/
def doV (b : Bk) (C : Hd.Cd) : Bk × Nat × ByteArray :=
  if Hd.coB C = true then (if C.k = 7 then (b, (lkV b C.na).1, (lkV b C.na).2) else ((chV b C).1, (chV b C).2, ByteArray.empty)) else (b, 4, ByteArray.empty)
def bk0 : Bk := ⟨[], [], [], 0⟩
/-- At whatever book. -/
def doF (b : Bk) (C : Hd.Cd) : Bk × Nat × ByteArray := if chkB b = true then doV b C else (bk0, 10, ByteArray.empty)
/-- A book, and what is told: its lists in rows made for it. -/
def Gave (b : Bk) (r : Nat) (s : ByteArray) (w : World) (e : Ending) (w' : World) : Prop := ∃ vn vt vb mn mt, e = .returned (.tuple #[.agg #[vn, vt, vb, .int .u64 (b.fe : Nat)], .agg #[.int .i64 (r : Nat), .string s]]) ∧ b.ns = mn.map (·.nd) ∧ b.ts = mt.map (·.td) ∧ OwnL w' w.heap.size vn vt vb mn mt b.bs ∧ Below w.heap.size w w'
theorem Gave.mk {b : Bk} {r : Nat} {s : ByteArray} {w w' : World} {vn vt vb : Value} (mn : List NdM) (mt : List TdM) (h1 : b.ns = mn.map (·.nd)) (h2 : b.ts = mt.map (·.td)) (h3 : OwnL w' w.heap.size vn vt vb mn mt b.bs) (h4 : Below w.heap.size w w') : Gave b r s w (.returned (.tuple #[.agg #[vn, vt, vb, .int .u64 (b.fe : Nat)], .agg #[.int .i64 (r : Nat), .string s]])) w' := ⟨vn, vt, vb, mn, mt, rfl, h1, h2, h3, h4⟩
theorem results_two_cells {fn : Func} {p u : Tmp} {ty ty2 : TypeId} (h : fn.results = #[.cell p ty, .cell u ty2]) (tmps : Array Value) (P : Program) (w : World) :
    (results fn tmps).run P w = ((asAddr (tmps.getD p undef)).run P w).andThen fun a w₁ => ((loadVar ty a).run P w₁).andThen fun v w₂ => ((asAddr (tmps.getD u undef)).run P w₂).andThen fun a2 w₃ => ((loadVar ty2 a2).run P w₃).andThen fun v2 w₄ => .ok (.tuple #[v, v2]) w₄ := by
  simp only [results, h]
  simp [Sem.run_bind, Result.andThen]
theorem bodyPost_bxbx {fn : Func} {p u : Tmp} {ty ty2 : TypeId} (h : fn.results = #[.cell p ty, .cell u ty2]) {R : Ending → World → Prop} {a : Act} {w : World} (B B2 : Nat) (cs ds : List Value) (d d2 : TypeDesc) (hd : a.defers = [])
    (hp : a.tmps.getD p undef = .pointer (some ⟨B, 0, none⟩)) (hp2 : a.tmps.getD u undef = .pointer (some ⟨B2, 0, none⟩)) (hx : Hd.Bxn w B cs) (hy : Hd.Bxn w B2 ds) (hu : Tryz.prog.underlying ty = some d) (hr : d.isRow = true) (hi : (Tryz.prog.info? ty).map (·.size) = some cs.length)
    (hu2 : Tryz.prog.underlying ty2 = some d2) (hr2 : d2.isRow = true) (hi2 : (Tryz.prog.info? ty2).map (·.size) = some ds.length)
    (hR : R (.returned (.tuple #[.agg cs.toArray, .agg ds.toArray])) w) : bodyPost Tryz.prog fn R .ret a w := by
  refine bodyPost_ret ?_ hd hR
  rw [results_two_cells h, hp, hp2]
  have h1 := run_loadVar_mid w B 0 ty cs d (hx.range 0) hu hr hi
  have h2 := run_loadVar_mid w B2 0 ty2 ds d2 (hy.range 0) hu2 hr2 hi2
  simp [asAddr, h1, h2, Result.andThen]
/-- The four boxes of book.Do: what it was given, and what it gives. -/
structure Fr4 (w z : World) (cs : List Value) (os : List Value) (rs : List Value) (ts : List Value) : Prop where
  p : Hd.Bxn z w.heap.size cs
  o : Hd.Bxn z (w.heap.size + 1) os
  r : Hd.Bxn z (w.heap.size + 1 + 1) rs
  t : Hd.Bxn z (w.heap.size + 1 + 1 + 1) ts
  b : Below w.heap.size w z
  s : w.heap.size + 1 + 1 + 1 + 1 ≤ z.heap.size
theorem Fr4.made (w : World) (cs os rs ts : List Value) (T U : TypeId) (V : TypeId) : Fr4 w ((((w.alloc (.cells cs.toArray T)).alloc (.cells os.toArray U)).alloc (.cells rs.toArray T)).alloc (.cells ts.toArray V)) cs os rs ts := by
  have h1 := Hd.Bxn.made w cs T
  have h2 := Hd.Bxn.made (w.alloc (.cells cs.toArray T)) os U
  have h3 := Hd.Bxn.made ((w.alloc (.cells cs.toArray T)).alloc (.cells os.toArray U)) rs T
  have h4 := Hd.Bxn.made (((w.alloc (.cells cs.toArray T)).alloc (.cells os.toArray U)).alloc (.cells rs.toArray T)) ts V
  simp only [World.size_alloc] at h2 h3 h4
  refine ⟨((h1.below (al _ _)).below (al _ _)).below (al _ _), (h2.below (al _ _)).below (al _ _), h3.below (al _ _), h4, ?_, by simp⟩
  exact ((((Below.refl _ w).alloc (Nat.le_refl _) _).alloc (by simp) _).alloc (by simp; omega) _).alloc (by simp; omega) _
theorem Fr4.below {w z z' : World} {cs os rs ts : List Value} (h : Fr4 w z cs os rs ts) (hb : Below z.heap.size z z') : Fr4 w z' cs os rs ts :=
  ⟨h.p.below hb, h.o.below hb, h.r.below hb, h.t.below hb, h.b.trans (hb.mono h.b.size), Nat.le_trans h.s hb.size⟩
theorem bxn_far {z : World} {B P o : Nat} {cs vs : List Value} (h : Hd.Bxn z B cs) (hp : B ≠ P) : Hd.Bxn (z.setCells P o vs) B cs := by
  obtain ⟨T, h⟩ := h
  exact ⟨T, ((grown_setCells z P o vs).block B (by have := (Hd.Bxn.lt ⟨T, h⟩); exact this) (fun e => hp (Option.some.inj e))).trans h⟩
theorem Fr4.setP {w z : World} {cs os rs ts : List Value} (h : Fr4 w z cs os rs ts) (vs : List Value) (hl : vs.length = cs.length) : Fr4 w (z.setCells w.heap.size 0 vs) vs os rs ts :=
  ⟨h.p.all vs hl, bxn_far h.o (by omega), bxn_far h.r (by omega), bxn_far h.t (by omega), below_setCells h.b (by omega) _ _, Nat.le_trans h.s (grown_setCells z w.heap.size 0 vs).size⟩
theorem Fr4.setR {w z : World} {cs os rs ts : List Value} (h : Fr4 w z cs os rs ts) (vs : List Value) (hl : vs.length = rs.length) : Fr4 w (z.setCells (w.heap.size + 1 + 1) 0 vs) cs os vs ts :=
  ⟨bxn_far h.p (by omega), bxn_far h.o (by omega), h.r.all vs hl, bxn_far h.t (by omega), below_setCells h.b (by omega) _ _, Nat.le_trans h.s (grown_setCells z (w.heap.size + 1 + 1) 0 vs).size⟩
theorem Fr4.setT {w z : World} {cs os rs ts : List Value} (h : Fr4 w z cs os rs ts) (vs : List Value) (hl : vs.length = ts.length) : Fr4 w (z.setCells (w.heap.size + 1 + 1 + 1) 0 vs) cs os rs vs :=
  ⟨bxn_far h.p (by omega), bxn_far h.o (by omega), bxn_far h.r (by omega), h.t.all vs hl, below_setCells h.b (by omega) _ _, Nat.le_trans h.s (grown_setCells z (w.heap.size + 1 + 1 + 1) 0 vs).size⟩
/-- What is far from the boxes stays, as a box is written. -/
theorem ownl_set {z : World} {base B o : Nat} {vs : List Value} {vn vt vb : Value} {mn : List NdM} {mt : List TdM} {bs : List Rg.Pr} (h : OwnL z base vn vt vb mn mt bs) (hb : B < base) : OwnL (z.setCells B o vs) base vn vt vb mn mt bs := h.far (grown_setCells _ _ _ _) hb
end Bo
end Go.Proofs.YthbmnkeigmbbdaaGreat

/-
  AN ORDER TO A BOOK THAT IS NOT RIGHT: book.Do.
-/
namespace Go.Proofs.YthbmnkeigmbbdaaGreat
open Go.RowKit Go.Lib
namespace Bo
open Rw
set_option linter.unusedVariables false
theorem b4_one {a a' a'' : Option Addr} {n n' n'' c c' c'' : Nat} (i : Int) : ∀ u ∈ ([.slice a n c, .slice a' n' c', .slice a'' n'' c'', .int .u64 i] : List Value), u.oneCell' = true := by
  intro u hu
  simp only [List.mem_cons, List.not_mem_nil, or_false] at hu
  rcases hu with rfl | rfl | rfl | rfl <;> rfl
set_option maxRecDepth 100000 in
set_option maxHeartbeats 4000000 in
theorem do_no (b : Bk) (vn vt vb : Value) (C : Hd.Cd) (a2 a3 a4 a5 : Option Addr) (c2 c3 c4 c5 : Nat) (w : World) (hB : Books w w.heap.size vn vt vb b) (hc : chkB b = false) :
    Calls Tryz.prog 21 #[.agg #[vn, vt, vb, .int .u64 (b.fe : Nat)], .agg #[.int .u8 (C.k : Nat), .string C.nd.n, .int .i64 C.nd.z0, .int .i64 C.nd.z1, .int .i64 C.nd.z2, .slice a2 C.nd.ls.length c2, .slice a3 C.nd.ts.length c3, .string C.td.n, .int .i64 C.td.z0, .int .i64 C.td.z1, .int .i64 C.td.z2, .slice a4 C.td.ws.length c4, .slice a5 C.td.bs.length c5, .string C.td.g, .string C.td.a, .int .i64 C.td.r, .string C.na, .string C.on, .int .u64 (C.fe : Nat)]] w (Gave bk0 10 ByteArray.empty w) := by
  obtain ⟨W0, hW0⟩ : ∃ W0, W0 = (((w.alloc (.cells #[vn, vt, vb, .int .u64 (b.fe : Nat)] 27)).alloc (.cells #[.int .u8 (C.k : Nat), .string C.nd.n, .int .i64 C.nd.z0, .int .i64 C.nd.z1, .int .i64 C.nd.z2, .slice a2 C.nd.ls.length c2, .slice a3 C.nd.ts.length c3, .string C.td.n, .int .i64 C.td.z0, .int .i64 C.td.z1, .int .i64 C.td.z2, .slice a4 C.td.ws.length c4, .slice a5 C.td.bs.length c5, .string C.td.g, .string C.td.a, .int .i64 C.td.r, .string C.na, .string C.on, .int .u64 (C.fe : Nat)] 55)).alloc (.cells #[.slice none 0 0, .slice none 0 0, .slice none 0 0, .int .u64 0] 27)).alloc (.cells #[.int .i64 0, .string ⟨#[]⟩] 50) := ⟨_, rfl⟩
  have hf0 : Fr4 w W0 [vn, vt, vb, .int .u64 (b.fe : Nat)] [.int .u8 (C.k : Nat), .string C.nd.n, .int .i64 C.nd.z0, .int .i64 C.nd.z1, .int .i64 C.nd.z2, .slice a2 C.nd.ls.length c2, .slice a3 C.nd.ts.length c3, .string C.td.n, .int .i64 C.td.z0, .int .i64 C.td.z1, .int .i64 C.td.z2, .slice a4 C.td.ws.length c4, .slice a5 C.td.bs.length c5, .string C.td.g, .string C.td.a, .int .i64 C.td.r, .string C.na, .string C.on, .int .u64 (C.fe : Nat)] [.slice none 0 0, .slice none 0 0, .slice none 0 0, .int .u64 0] [.int .i64 0, .string ⟨#[]⟩] := by rw [hW0]; exact Fr4.made w _ _ _ _ _ _ _
  have HCK : Hid (Calls Tryz.prog 28 #[.agg #[vn, vt, vb, .int .u64 (b.fe : Nat)]] W0 fun e w' => e = .returned (.int .i64 10) ∧ Below W0.heap.size W0 w') := (check_any b vn vt vb W0 (hB.on hf0.b)).mono fun e w' ⟨he, hb⟩ => ⟨by rw [hc] at he; exact he, hb⟩
  obtain ⟨an, cn, hvn⟩ := hB.hn.slice
  obtain ⟨at', ct, hvt⟩ := hB.ht.slice
  obtain ⟨ab, cb, hvb⟩ := hB.hb.slice
  subst hvn hvt hvb
  have HW := Lib.hid hW0
  have HF0 : Hid (Fr4 w W0 [.slice an b.ns.length cn, .slice at' b.ts.length ct, .slice ab b.bs.length cb, .int .u64 (b.fe : Nat)] [.int .u8 (C.k : Nat), .string C.nd.n, .int .i64 C.nd.z0, .int .i64 C.nd.z1, .int .i64 C.nd.z2, .slice a2 C.nd.ls.length c2, .slice a3 C.nd.ts.length c3, .string C.td.n, .int .i64 C.td.z0, .int .i64 C.td.z1, .int .i64 C.td.z2, .slice a4 C.td.ws.length c4, .slice a5 C.td.bs.length c5, .string C.td.g, .string C.td.a, .int .i64 C.td.r, .string C.na, .string C.on, .int .u64 (C.fe : Nat)] [.slice none 0 0, .slice none 0 0, .slice none 0 0, .int .u64 0] [.int .i64 0, .string ⟨#[]⟩]) := hf0
  clear hW0 hf0 hB hc
  go_enter Tryz.func21, Tryz.ntmps21
  go_upto_region 1 with fail
  rw [← HW.out]
  have b0 : W0.cell? ⟨w.heap.size, 0, none⟩ = some (.slice an b.ns.length cn) := HF0.out.p.cell 0
  have b1 : W0.cell? ⟨w.heap.size, 1, none⟩ = some (.slice at' b.ts.length ct) := HF0.out.p.cell 1
  have b2 : W0.cell? ⟨w.heap.size, 2, none⟩ = some (.slice ab b.bs.length cb) := HF0.out.p.cell 2
  have b3 : W0.cell? ⟨w.heap.size, 3, none⟩ = some (.int .u64 (b.fe : Nat)) := HF0.out.p.cell 3
  go_wp2_with fail
  refine HCK.out.mono ?_
  rintro e w1 ⟨rfl, hb⟩
  have HF1 : Hid (Fr4 w w1 [.slice an b.ns.length cn, .slice at' b.ts.length ct, .slice ab b.bs.length cb, .int .u64 (b.fe : Nat)] [.int .u8 (C.k : Nat), .string C.nd.n, .int .i64 C.nd.z0, .int .i64 C.nd.z1, .int .i64 C.nd.z2, .slice a2 C.nd.ls.length c2, .slice a3 C.nd.ts.length c3, .string C.td.n, .int .i64 C.td.z0, .int .i64 C.td.z1, .int .i64 C.td.z2, .slice a4 C.td.ws.length c4, .slice a5 C.td.bs.length c5, .string C.td.g, .string C.td.a, .int .i64 C.td.r, .string C.na, .string C.on, .int .u64 (C.fe : Nat)] [.slice none 0 0, .slice none 0 0, .slice none 0 0, .int .u64 0] [.int .i64 0, .string ⟨#[]⟩]) := HF0.out.below hb
  clear hb b0 b1 b2 b3
  go_upto_region 3 with fail
  refine wp_region_list ?_
  refine wpList_plain rfl fun K hK => ?_
  go_simp
  refine hK _ _ ?_
  clear hK K
  refine wpList_plain rfl fun K hK => ?_
  go_simp
  refine hK _ _ ?_
  clear hK K
  refine wpList_plain rfl fun K hK => ?_
  go_simp
  refine hK _ _ ?_
  clear hK K
  have hthR := HF1.out.r.there 4 rfl
  refine wpList_store_mid rfl 27 (.tmp 4) (.tmp 13) rfl (w.heap.size + 1 + 1) 0 #[.slice none 0 0, .slice none 0 0, .slice none 0 0, .int .u64 0] rfl rfl hthR rfl (all_oneCell_toArray (b4_one _)) ?_
  rw [show (#[.slice none 0 0, .slice none 0 0, .slice none 0 0, .int .u64 0] : Array Value).toList = [.slice none 0 0, .slice none 0 0, .slice none 0 0, .int .u64 0] from rfl]
  have HR1 : Hid (Fr4 w (w1.setCells (w.heap.size + 1 + 1) 0 [.slice none 0 0, .slice none 0 0, .slice none 0 0, .int .u64 0]) [.slice an b.ns.length cn, .slice at' b.ts.length ct, .slice ab b.bs.length cb, .int .u64 (b.fe : Nat)] [.int .u8 (C.k : Nat), .string C.nd.n, .int .i64 C.nd.z0, .int .i64 C.nd.z1, .int .i64 C.nd.z2, .slice a2 C.nd.ls.length c2, .slice a3 C.nd.ts.length c3, .string C.td.n, .int .i64 C.td.z0, .int .i64 C.td.z1, .int .i64 C.td.z2, .slice a4 C.td.ws.length c4, .slice a5 C.td.bs.length c5, .string C.td.g, .string C.td.a, .int .i64 C.td.r, .string C.na, .string C.on, .int .u64 (C.fe : Nat)] [.slice none 0 0, .slice none 0 0, .slice none 0 0, .int .u64 0] [.int .i64 0, .string ⟨#[]⟩]) := HF1.out.setR [.slice none 0 0, .slice none 0 0, .slice none 0 0, .int .u64 0] rfl
  clear hthR
  generalize w1.setCells (w.heap.size + 1 + 1) 0 [.slice none 0 0, .slice none 0 0, .slice none 0 0, .int .u64 0] = z1 at *
  have hthT := HR1.out.t.there 2 rfl
  refine wpList_store_mid rfl 50 (.tmp 5) (.tmp 15) rfl (w.heap.size + 1 + 1 + 1) 0 #[.int .i64 10, .string ⟨#[]⟩] rfl rfl hthT rfl (all_oneCell_toArray (tlC_one _ _)) ?_
  rw [show (#[.int .i64 10, .string ⟨#[]⟩] : Array Value).toList = [.int .i64 10, .string ⟨#[]⟩] from rfl]
  have HR2 : Hid (Fr4 w (z1.setCells (w.heap.size + 1 + 1 + 1) 0 [.int .i64 10, .string ⟨#[]⟩]) [.slice an b.ns.length cn, .slice at' b.ts.length ct, .slice ab b.bs.length cb, .int .u64 (b.fe : Nat)] [.int .u8 (C.k : Nat), .string C.nd.n, .int .i64 C.nd.z0, .int .i64 C.nd.z1, .int .i64 C.nd.z2, .slice a2 C.nd.ls.length c2, .slice a3 C.nd.ts.length c3, .string C.td.n, .int .i64 C.td.z0, .int .i64 C.td.z1, .int .i64 C.td.z2, .slice a4 C.td.ws.length c4, .slice a5 C.td.bs.length c5, .string C.td.g, .string C.td.a, .int .i64 C.td.r, .string C.na, .string C.on, .int .u64 (C.fe : Nat)] [.slice none 0 0, .slice none 0 0, .slice none 0 0, .int .u64 0] [.int .i64 10, .string ⟨#[]⟩]) := HR1.out.setT [.int .i64 10, .string ⟨#[]⟩] rfl
  clear hthT
  generalize z1.setCells (w.heap.size + 1 + 1 + 1) 0 [.int .i64 10, .string ⟨#[]⟩] = z2 at *
  refine wpList_nil ?_
  go_wp2
  exact bodyPost_bxbx rfl (w.heap.size + 1 + 1) (w.heap.size + 1 + 1 + 1) [.slice none 0 0, .slice none 0 0, .slice none 0 0, .int .u64 0] [.int .i64 10, .string ⟨#[]⟩] _ _ rfl rfl rfl HR2.out.r HR2.out.t Tryz.underlying27 rfl rfl Tryz.underlying50 rfl rfl (Gave.mk (b := bk0) (r := 10) (s := ByteArray.empty) [] [] rfl rfl ⟨Own.nil _ _ _, Own.nil _ _ _, Own.nil _ _ _, by simp, by simp⟩ HR2.out.b)
end Bo
end Go.Proofs.YthbmnkeigmbbdaaGreat

/-
  AN ORDER OF NO FORM: book.Do.
-/
namespace Go.Proofs.YthbmnkeigmbbdaaGreat
open Go.RowKit Go.Lib
namespace Bo
open Rw
set_option linter.unusedVariables false
set_option maxRecDepth 100000 in
set_option maxHeartbeats 4000000 in
theorem do_form (b : Bk) (vn vt vb : Value) (C : Hd.Cd) (a2 a3 a4 a5 : Option Addr) (c2 c3 c4 c5 : Nat) (w : World) (hB : Books w w.heap.size vn vt vb b) (hc : chkB b = true) (ho : Hd.coB C = false) :
    Calls Tryz.prog 21 #[.agg #[vn, vt, vb, .int .u64 (b.fe : Nat)], .agg #[.int .u8 (C.k : Nat), .string C.nd.n, .int .i64 C.nd.z0, .int .i64 C.nd.z1, .int .i64 C.nd.z2, .slice a2 C.nd.ls.length c2, .slice a3 C.nd.ts.length c3, .string C.td.n, .int .i64 C.td.z0, .int .i64 C.td.z1, .int .i64 C.td.z2, .slice a4 C.td.ws.length c4, .slice a5 C.td.bs.length c5, .string C.td.g, .string C.td.a, .int .i64 C.td.r, .string C.na, .string C.on, .int .u64 (C.fe : Nat)]] w (Gave b 4 ByteArray.empty w) := by
  obtain ⟨W0, hW0⟩ : ∃ W0, W0 = (((w.alloc (.cells #[vn, vt, vb, .int .u64 (b.fe : Nat)] 27)).alloc (.cells #[.int .u8 (C.k : Nat), .string C.nd.n, .int .i64 C.nd.z0, .int .i64 C.nd.z1, .int .i64 C.nd.z2, .slice a2 C.nd.ls.length c2, .slice a3 C.nd.ts.length c3, .string C.td.n, .int .i64 C.td.z0, .int .i64 C.td.z1, .int .i64 C.td.z2, .slice a4 C.td.ws.length c4, .slice a5 C.td.bs.length c5, .string C.td.g, .string C.td.a, .int .i64 C.td.r, .string C.na, .string C.on, .int .u64 (C.fe : Nat)] 55)).alloc (.cells #[.slice none 0 0, .slice none 0 0, .slice none 0 0, .int .u64 0] 27)).alloc (.cells #[.int .i64 0, .string ⟨#[]⟩] 50) := ⟨_, rfl⟩
  have hf0 : Fr4 w W0 [vn, vt, vb, .int .u64 (b.fe : Nat)] [.int .u8 (C.k : Nat), .string C.nd.n, .int .i64 C.nd.z0, .int .i64 C.nd.z1, .int .i64 C.nd.z2, .slice a2 C.nd.ls.length c2, .slice a3 C.nd.ts.length c3, .string C.td.n, .int .i64 C.td.z0, .int .i64 C.td.z1, .int .i64 C.td.z2, .slice a4 C.td.ws.length c4, .slice a5 C.td.bs.length c5, .string C.td.g, .string C.td.a, .int .i64 C.td.r, .string C.na, .string C.on, .int .u64 (C.fe : Nat)] [.slice none 0 0, .slice none 0 0, .slice none 0 0, .int .u64 0] [.int .i64 0, .string ⟨#[]⟩] := by rw [hW0]; exact Fr4.made w _ _ _ _ _ _ _
  have HCK : Hid (Calls Tryz.prog 28 #[.agg #[vn, vt, vb, .int .u64 (b.fe : Nat)]] W0 fun e w' => e = .returned (.int .i64 0) ∧ Below W0.heap.size W0 w') := (check_any b vn vt vb W0 (hB.on hf0.b)).mono fun e w' ⟨he, hb⟩ => ⟨by rw [hc] at he; exact he, hb⟩
  have HCL : Hid (∀ z, Hid (Below w.heap.size w z) → Calls Tryz.prog 51 #[.agg #[vn, vt, vb, .int .u64 (b.fe : Nat)]] z (ClnB b z)) := fun z hz => clone_bk b vn vt vb z (hB.on hz.out) (hB.fine hc)
  have HCO : Hid (∀ z, Calls Tryz.prog 52 #[.agg #[.int .u8 (C.k : Nat), .string C.nd.n, .int .i64 C.nd.z0, .int .i64 C.nd.z1, .int .i64 C.nd.z2, .slice a2 C.nd.ls.length c2, .slice a3 C.nd.ts.length c3, .string C.td.n, .int .i64 C.td.z0, .int .i64 C.td.z1, .int .i64 C.td.z2, .slice a4 C.td.ws.length c4, .slice a5 C.td.bs.length c5, .string C.td.g, .string C.td.a, .int .i64 C.td.r, .string C.na, .string C.on, .int .u64 (C.fe : Nat)]] z fun e w' => e = .returned (.int .i64 (Hd.coE (Hd.coB C) : Nat)) ∧ Below z.heap.size z w') := fun z => Hd.checkOrder_bo C a2 a3 a4 a5 c2 c3 c4 c5 z
  obtain ⟨an, cn, hvn⟩ := hB.hn.slice
  obtain ⟨at', ct, hvt⟩ := hB.ht.slice
  obtain ⟨ab, cb, hvb⟩ := hB.hb.slice
  subst hvn hvt hvb
  have HW := Lib.hid hW0
  have HF0 : Hid (Fr4 w W0 [.slice an b.ns.length cn, .slice at' b.ts.length ct, .slice ab b.bs.length cb, .int .u64 (b.fe : Nat)] [.int .u8 (C.k : Nat), .string C.nd.n, .int .i64 C.nd.z0, .int .i64 C.nd.z1, .int .i64 C.nd.z2, .slice a2 C.nd.ls.length c2, .slice a3 C.nd.ts.length c3, .string C.td.n, .int .i64 C.td.z0, .int .i64 C.td.z1, .int .i64 C.td.z2, .slice a4 C.td.ws.length c4, .slice a5 C.td.bs.length c5, .string C.td.g, .string C.td.a, .int .i64 C.td.r, .string C.na, .string C.on, .int .u64 (C.fe : Nat)] [.slice none 0 0, .slice none 0 0, .slice none 0 0, .int .u64 0] [.int .i64 0, .string ⟨#[]⟩]) := hf0
  rw [ho] at HCO
  clear hW0 hf0 hB hc ho
  go_enter Tryz.func21, Tryz.ntmps21
  go_upto_region 1 with fail
  rw [← HW.out]
  have b0 : W0.cell? ⟨w.heap.size, 0, none⟩ = some (.slice an b.ns.length cn) := HF0.out.p.cell 0
  have b1 : W0.cell? ⟨w.heap.size, 1, none⟩ = some (.slice at' b.ts.length ct) := HF0.out.p.cell 1
  have b2 : W0.cell? ⟨w.heap.size, 2, none⟩ = some (.slice ab b.bs.length cb) := HF0.out.p.cell 2
  have b3 : W0.cell? ⟨w.heap.size, 3, none⟩ = some (.int .u64 (b.fe : Nat)) := HF0.out.p.cell 3
  go_wp2_with fail
  refine HCK.out.mono ?_
  rintro e w1 ⟨rfl, hb⟩
  have HF1 : Hid (Fr4 w w1 [.slice an b.ns.length cn, .slice at' b.ts.length ct, .slice ab b.bs.length cb, .int .u64 (b.fe : Nat)] [.int .u8 (C.k : Nat), .string C.nd.n, .int .i64 C.nd.z0, .int .i64 C.nd.z1, .int .i64 C.nd.z2, .slice a2 C.nd.ls.length c2, .slice a3 C.nd.ts.length c3, .string C.td.n, .int .i64 C.td.z0, .int .i64 C.td.z1, .int .i64 C.td.z2, .slice a4 C.td.ws.length c4, .slice a5 C.td.bs.length c5, .string C.td.g, .string C.td.a, .int .i64 C.td.r, .string C.na, .string C.on, .int .u64 (C.fe : Nat)] [.slice none 0 0, .slice none 0 0, .slice none 0 0, .int .u64 0] [.int .i64 0, .string ⟨#[]⟩]) := HF0.out.below hb
  clear hb b0 b1 b2 b3
  go_upto_region 4 with fail
  refine wp_region_list ?_
  refine wpList_load_mid rfl 27 (.tmp 2) rfl w.heap.size 0 rfl [.slice an b.ns.length cn, .slice at' b.ts.length ct, .slice ab b.bs.length cb, .int .u64 (b.fe : Nat)] _ (HF1.out.p.range 0) Tryz.underlying27 rfl rfl ?_
  refine wpList_plain rfl fun K hK => ?_
  go_wp2_with fail
  refine (HCL.out w1 HF1.out.b).mono ?_
  rintro e w2 ⟨v1, v3, v5, m1, m3, rfl, he1, he3, hol, hb⟩
  obtain ⟨a1, d1, rfl⟩ := hol.hn.slice
  obtain ⟨a3', d3, rfl⟩ := hol.ht.slice
  obtain ⟨a5', d5, rfl⟩ := hol.hb.slice
  have HF2 : Hid (Fr4 w w2 [.slice an b.ns.length cn, .slice at' b.ts.length ct, .slice ab b.bs.length cb, .int .u64 (b.fe : Nat)] [.int .u8 (C.k : Nat), .string C.nd.n, .int .i64 C.nd.z0, .int .i64 C.nd.z1, .int .i64 C.nd.z2, .slice a2 C.nd.ls.length c2, .slice a3 C.nd.ts.length c3, .string C.td.n, .int .i64 C.td.z0, .int .i64 C.td.z1, .int .i64 C.td.z2, .slice a4 C.td.ws.length c4, .slice a5 C.td.bs.length c5, .string C.td.g, .string C.td.a, .int .i64 C.td.r, .string C.na, .string C.on, .int .u64 (C.fe : Nat)] [.slice none 0 0, .slice none 0 0, .slice none 0 0, .int .u64 0] [.int .i64 0, .string ⟨#[]⟩]) := HF1.out.below hb
  have HO2 : Hid (OwnL w2 (w.heap.size + 1 + 1 + 1 + 1) (.slice a1 m1.length d1) (.slice a3' m3.length d3) (.slice a5' b.bs.length d5) m1 m3 b.bs) := hol.le HF1.out.s
  have HE1 := Lib.hid he1
  have HE3 := Lib.hid he3
  clear hb hol he1 he3
  refine hK _ _ ?_
  clear hK K
  have hthP := HF2.out.p.there 4 rfl
  refine wpList_store_mid rfl 27 (.tmp 2) (.tmp 17) rfl w.heap.size 0 #[.slice a1 m1.length d1, .slice a3' m3.length d3, .slice a5' b.bs.length d5, .int .u64 (b.fe : Nat)] rfl rfl hthP rfl (all_oneCell_toArray (b4_one _)) ?_
  rw [show (#[.slice a1 m1.length d1, .slice a3' m3.length d3, .slice a5' b.bs.length d5, .int .u64 (b.fe : Nat)] : Array Value).toList = [.slice a1 m1.length d1, .slice a3' m3.length d3, .slice a5' b.bs.length d5, .int .u64 (b.fe : Nat)] from rfl]
  have HF3 : Hid (Fr4 w (w2.setCells w.heap.size 0 [.slice a1 m1.length d1, .slice a3' m3.length d3, .slice a5' b.bs.length d5, .int .u64 (b.fe : Nat)]) [.slice a1 m1.length d1, .slice a3' m3.length d3, .slice a5' b.bs.length d5, .int .u64 (b.fe : Nat)] [.int .u8 (C.k : Nat), .string C.nd.n, .int .i64 C.nd.z0, .int .i64 C.nd.z1, .int .i64 C.nd.z2, .slice a2 C.nd.ls.length c2, .slice a3 C.nd.ts.length c3, .string C.td.n, .int .i64 C.td.z0, .int .i64 C.td.z1, .int .i64 C.td.z2, .slice a4 C.td.ws.length c4, .slice a5 C.td.bs.length c5, .string C.td.g, .string C.td.a, .int .i64 C.td.r, .string C.na, .string C.on, .int .u64 (C.fe : Nat)] [.slice none 0 0, .slice none 0 0, .slice none 0 0, .int .u64 0] [.int .i64 0, .string ⟨#[]⟩]) := HF2.out.setP [.slice a1 m1.length d1, .slice a3' m3.length d3, .slice a5' b.bs.length d5, .int .u64 (b.fe : Nat)] rfl
  have HO3 : Hid (OwnL (w2.setCells w.heap.size 0 [.slice a1 m1.length d1, .slice a3' m3.length d3, .slice a5' b.bs.length d5, .int .u64 (b.fe : Nat)]) (w.heap.size + 1 + 1 + 1 + 1) (.slice a1 m1.length d1) (.slice a3' m3.length d3) (.slice a5' b.bs.length d5) m1 m3 b.bs) := ownl_set HO2.out (by omega)
  clear hthP HF2 HO2 HF1
  generalize w2.setCells w.heap.size 0 [.slice a1 m1.length d1, .slice a3' m3.length d3, .slice a5' b.bs.length d5, .int .u64 (b.fe : Nat)] = w3 at *
  refine wpList_nil ?_
  go_upto_region 5 with fail
  refine wp_region_list ?_
  refine wpList_load_mid rfl 55 (.tmp 3) rfl (w.heap.size + 1) 0 rfl [.int .u8 (C.k : Nat), .string C.nd.n, .int .i64 C.nd.z0, .int .i64 C.nd.z1, .int .i64 C.nd.z2, .slice a2 C.nd.ls.length c2, .slice a3 C.nd.ts.length c3, .string C.td.n, .int .i64 C.td.z0, .int .i64 C.td.z1, .int .i64 C.td.z2, .slice a4 C.td.ws.length c4, .slice a5 C.td.bs.length c5, .string C.td.g, .string C.td.a, .int .i64 C.td.r, .string C.na, .string C.on, .int .u64 (C.fe : Nat)] _ (HF3.out.o.range 0) Tryz.underlying55 rfl rfl ?_
  refine wpList_plain rfl fun K hK => ?_
  go_wp2_with fail
  refine (HCO.out w3).mono ?_
  rintro e w4 ⟨rfl, hb⟩
  have HF4 : Hid (Fr4 w w4 [.slice a1 m1.length d1, .slice a3' m3.length d3, .slice a5' b.bs.length d5, .int .u64 (b.fe : Nat)] [.int .u8 (C.k : Nat), .string C.nd.n, .int .i64 C.nd.z0, .int .i64 C.nd.z1, .int .i64 C.nd.z2, .slice a2 C.nd.ls.length c2, .slice a3 C.nd.ts.length c3, .string C.td.n, .int .i64 C.td.z0, .int .i64 C.td.z1, .int .i64 C.td.z2, .slice a4 C.td.ws.length c4, .slice a5 C.td.bs.length c5, .string C.td.g, .string C.td.a, .int .i64 C.td.r, .string C.na, .string C.on, .int .u64 (C.fe : Nat)] [.slice none 0 0, .slice none 0 0, .slice none 0 0, .int .u64 0] [.int .i64 0, .string ⟨#[]⟩]) := HF3.out.below hb
  have HL : Hid (OwnL w4 (w.heap.size + 1 + 1 + 1 + 1) (.slice a1 m1.length d1) (.slice a3' m3.length d3) (.slice a5' b.bs.length d5) m1 m3 b.bs) := HO3.out.keep hb
  clear hb HF3 HO3
  refine hK _ _ ?_
  clear hK K
  go_upto_region 7 with fail
  refine wp_region_list ?_
  refine wpList_load_mid rfl 27 (.tmp 2) rfl w.heap.size 0 rfl [.slice a1 m1.length d1, .slice a3' m3.length d3, .slice a5' b.bs.length d5, .int .u64 (b.fe : Nat)] _ (HF4.out.p.range 0) Tryz.underlying27 rfl rfl ?_
  refine wpList_plain rfl fun K hK => ?_
  go_simp
  refine hK _ _ ?_
  clear hK K
  refine wpList_plain rfl fun K hK => ?_
  go_simp
  refine hK _ _ ?_
  clear hK K
  have hthR := HF4.out.r.there 4 rfl
  refine wpList_store_mid rfl 27 (.tmp 4) (.tmp 22) rfl (w.heap.size + 1 + 1) 0 #[.slice a1 m1.length d1, .slice a3' m3.length d3, .slice a5' b.bs.length d5, .int .u64 (b.fe : Nat)] rfl rfl hthR rfl (all_oneCell_toArray (b4_one _)) ?_
  rw [show (#[.slice a1 m1.length d1, .slice a3' m3.length d3, .slice a5' b.bs.length d5, .int .u64 (b.fe : Nat)] : Array Value).toList = [.slice a1 m1.length d1, .slice a3' m3.length d3, .slice a5' b.bs.length d5, .int .u64 (b.fe : Nat)] from rfl]
  have HR1 : Hid (Fr4 w (w4.setCells (w.heap.size + 1 + 1) 0 [.slice a1 m1.length d1, .slice a3' m3.length d3, .slice a5' b.bs.length d5, .int .u64 (b.fe : Nat)]) [.slice a1 m1.length d1, .slice a3' m3.length d3, .slice a5' b.bs.length d5, .int .u64 (b.fe : Nat)] [.int .u8 (C.k : Nat), .string C.nd.n, .int .i64 C.nd.z0, .int .i64 C.nd.z1, .int .i64 C.nd.z2, .slice a2 C.nd.ls.length c2, .slice a3 C.nd.ts.length c3, .string C.td.n, .int .i64 C.td.z0, .int .i64 C.td.z1, .int .i64 C.td.z2, .slice a4 C.td.ws.length c4, .slice a5 C.td.bs.length c5, .string C.td.g, .string C.td.a, .int .i64 C.td.r, .string C.na, .string C.on, .int .u64 (C.fe : Nat)] [.slice a1 m1.length d1, .slice a3' m3.length d3, .slice a5' b.bs.length d5, .int .u64 (b.fe : Nat)] [.int .i64 0, .string ⟨#[]⟩]) := HF4.out.setR [.slice a1 m1.length d1, .slice a3' m3.length d3, .slice a5' b.bs.length d5, .int .u64 (b.fe : Nat)] rfl
  have HL1 : Hid (OwnL (w4.setCells (w.heap.size + 1 + 1) 0 [.slice a1 m1.length d1, .slice a3' m3.length d3, .slice a5' b.bs.length d5, .int .u64 (b.fe : Nat)]) (w.heap.size + 1 + 1 + 1 + 1) (.slice a1 m1.length d1) (.slice a3' m3.length d3) (.slice a5' b.bs.length d5) m1 m3 b.bs) := ownl_set HL.out (by omega)
  clear hthR
  generalize w4.setCells (w.heap.size + 1 + 1) 0 [.slice a1 m1.length d1, .slice a3' m3.length d3, .slice a5' b.bs.length d5, .int .u64 (b.fe : Nat)] = z1 at *
  have hthT := HR1.out.t.there 2 rfl
  refine wpList_store_mid rfl 50 (.tmp 5) (.tmp 24) rfl (w.heap.size + 1 + 1 + 1) 0 #[.int .i64 4, .string ⟨#[]⟩] rfl rfl hthT rfl (all_oneCell_toArray (tlC_one _ _)) ?_
  rw [show (#[.int .i64 4, .string ⟨#[]⟩] : Array Value).toList = [.int .i64 4, .string ⟨#[]⟩] from rfl]
  have HR2 : Hid (Fr4 w (z1.setCells (w.heap.size + 1 + 1 + 1) 0 [.int .i64 4, .string ⟨#[]⟩]) [.slice a1 m1.length d1, .slice a3' m3.length d3, .slice a5' b.bs.length d5, .int .u64 (b.fe : Nat)] [.int .u8 (C.k : Nat), .string C.nd.n, .int .i64 C.nd.z0, .int .i64 C.nd.z1, .int .i64 C.nd.z2, .slice a2 C.nd.ls.length c2, .slice a3 C.nd.ts.length c3, .string C.td.n, .int .i64 C.td.z0, .int .i64 C.td.z1, .int .i64 C.td.z2, .slice a4 C.td.ws.length c4, .slice a5 C.td.bs.length c5, .string C.td.g, .string C.td.a, .int .i64 C.td.r, .string C.na, .string C.on, .int .u64 (C.fe : Nat)] [.slice a1 m1.length d1, .slice a3' m3.length d3, .slice a5' b.bs.length d5, .int .u64 (b.fe : Nat)] [.int .i64 4, .string ⟨#[]⟩]) := HR1.out.setT [.int .i64 4, .string ⟨#[]⟩] rfl
  have HL2 : Hid (OwnL (z1.setCells (w.heap.size + 1 + 1 + 1) 0 [.int .i64 4, .string ⟨#[]⟩]) (w.heap.size + 1 + 1 + 1 + 1) (.slice a1 m1.length d1) (.slice a3' m3.length d3) (.slice a5' b.bs.length d5) m1 m3 b.bs) := ownl_set HL1.out (by omega)
  clear hthT
  generalize z1.setCells (w.heap.size + 1 + 1 + 1) 0 [.int .i64 4, .string ⟨#[]⟩] = z2 at *
  refine wpList_nil ?_
  go_wp2
  exact bodyPost_bxbx rfl (w.heap.size + 1 + 1) (w.heap.size + 1 + 1 + 1) [.slice a1 m1.length d1, .slice a3' m3.length d3, .slice a5' b.bs.length d5, .int .u64 (b.fe : Nat)] [.int .i64 4, .string ⟨#[]⟩] _ _ rfl rfl rfl HR2.out.r HR2.out.t Tryz.underlying27 rfl rfl Tryz.underlying50 rfl rfl (Gave.mk (b := b) (r := 4) (s := ByteArray.empty) m1 m3 (HE1.out) (HE3.out) (HL2.out.le (by omega)) HR2.out.b)
end Bo
end Go.Proofs.YthbmnkeigmbbdaaGreat

/-
  AN ORDER THAT CHANGES A BOOK: book.Do.
-/
namespace Go.Proofs.YthbmnkeigmbbdaaGreat
open Go.RowKit Go.Lib
namespace Bo
open Rw
set_option linter.unusedVariables false
theorem Fr4.chg {w z z' : World} {cs os rs ts cs' : List Value} (h : Fr4 w z cs os rs ts) (hc : Chg w.heap.size (w.heap.size + 1 + 1 + 1 + 1) z z') (hp : Hd.Bxn z' w.heap.size cs') : Fr4 w z' cs' os rs ts :=
  ⟨hp, hc.bxn h.o (by omega) (by omega), hc.bxn h.r (by omega) (by omega), hc.bxn h.t (by omega) (by omega), h.b.trans (hc.below (Nat.le_refl _) (by omega)), Nat.le_trans h.s hc.size⟩
set_option maxRecDepth 100000 in
set_option maxHeartbeats 4000000 in
theorem do_change (b : Bk) (vn vt vb : Value) (C : Hd.Cd) (a2 a3 a4 a5 : Option Addr) (c2 c3 c4 c5 : Nat) (w : World) (hB : Books w w.heap.size vn vt vb b) (b' : Bk) (r : Nat) (hdn : DeepN w w.heap.size ⟨C.nd, a2, c2, a3, c3⟩) (hfn : FitN C.nd) (hdt : DeepT w w.heap.size ⟨C.td, a4, c4, a5, c5⟩) (hft : FitT C.td) (hc : chkB b = true) (ho : Hd.coB C = true) (hk : 1 ≤ C.k ∧ C.k ≤ 6) (hv : chV b C = (b', r)) :
    Calls Tryz.prog 21 #[.agg #[vn, vt, vb, .int .u64 (b.fe : Nat)], .agg #[.int .u8 (C.k : Nat), .string C.nd.n, .int .i64 C.nd.z0, .int .i64 C.nd.z1, .int .i64 C.nd.z2, .slice a2 C.nd.ls.length c2, .slice a3 C.nd.ts.length c3, .string C.td.n, .int .i64 C.td.z0, .int .i64 C.td.z1, .int .i64 C.td.z2, .slice a4 C.td.ws.length c4, .slice a5 C.td.bs.length c5, .string C.td.g, .string C.td.a, .int .i64 C.td.r, .string C.na, .string C.on, .int .u64 (C.fe : Nat)]] w (Gave b' r ByteArray.empty w) := by
  obtain ⟨W0, hW0⟩ : ∃ W0, W0 = (((w.alloc (.cells #[vn, vt, vb, .int .u64 (b.fe : Nat)] 27)).alloc (.cells #[.int .u8 (C.k : Nat), .string C.nd.n, .int .i64 C.nd.z0, .int .i64 C.nd.z1, .int .i64 C.nd.z2, .slice a2 C.nd.ls.length c2, .slice a3 C.nd.ts.length c3, .string C.td.n, .int .i64 C.td.z0, .int .i64 C.td.z1, .int .i64 C.td.z2, .slice a4 C.td.ws.length c4, .slice a5 C.td.bs.length c5, .string C.td.g, .string C.td.a, .int .i64 C.td.r, .string C.na, .string C.on, .int .u64 (C.fe : Nat)] 55)).alloc (.cells #[.slice none 0 0, .slice none 0 0, .slice none 0 0, .int .u64 0] 27)).alloc (.cells #[.int .i64 0, .string ⟨#[]⟩] 50) := ⟨_, rfl⟩
  have hf0 : Fr4 w W0 [vn, vt, vb, .int .u64 (b.fe : Nat)] [.int .u8 (C.k : Nat), .string C.nd.n, .int .i64 C.nd.z0, .int .i64 C.nd.z1, .int .i64 C.nd.z2, .slice a2 C.nd.ls.length c2, .slice a3 C.nd.ts.length c3, .string C.td.n, .int .i64 C.td.z0, .int .i64 C.td.z1, .int .i64 C.td.z2, .slice a4 C.td.ws.length c4, .slice a5 C.td.bs.length c5, .string C.td.g, .string C.td.a, .int .i64 C.td.r, .string C.na, .string C.on, .int .u64 (C.fe : Nat)] [.slice none 0 0, .slice none 0 0, .slice none 0 0, .int .u64 0] [.int .i64 0, .string ⟨#[]⟩] := by rw [hW0]; exact Fr4.made w _ _ _ _ _ _ _
  have HCK : Hid (Calls Tryz.prog 28 #[.agg #[vn, vt, vb, .int .u64 (b.fe : Nat)]] W0 fun e w' => e = .returned (.int .i64 0) ∧ Below W0.heap.size W0 w') := (check_any b vn vt vb W0 (hB.on hf0.b)).mono fun e w' ⟨he, hb⟩ => ⟨by rw [hc] at he; exact he, hb⟩
  have HCL : Hid (∀ z, Hid (Below w.heap.size w z) → Calls Tryz.prog 51 #[.agg #[vn, vt, vb, .int .u64 (b.fe : Nat)]] z (ClnB b z)) := fun z hz => clone_bk b vn vt vb z (hB.on hz.out) (hB.fine hc)
  have HCO : Hid (∀ z, Calls Tryz.prog 52 #[.agg #[.int .u8 (C.k : Nat), .string C.nd.n, .int .i64 C.nd.z0, .int .i64 C.nd.z1, .int .i64 C.nd.z2, .slice a2 C.nd.ls.length c2, .slice a3 C.nd.ts.length c3, .string C.td.n, .int .i64 C.td.z0, .int .i64 C.td.z1, .int .i64 C.td.z2, .slice a4 C.td.ws.length c4, .slice a5 C.td.bs.length c5, .string C.td.g, .string C.td.a, .int .i64 C.td.r, .string C.na, .string C.on, .int .u64 (C.fe : Nat)]] z fun e w' => e = .returned (.int .i64 (Hd.coE (Hd.coB C) : Nat)) ∧ Below z.heap.size z w') := fun z => Hd.checkOrder_bo C a2 a3 a4 a5 c2 c3 c4 c5 z
  have HCH : Hid (∀ z v1 v3 v5 m1 m3, Below w.heap.size w z → St z w.heap.size (w.heap.size + 1 + 1 + 1 + 1) b v1 v3 v5 m1 m3 → Calls Tryz.prog 54 #[.pointer (some ⟨w.heap.size, 0, none⟩), .agg #[.int .u8 (C.k : Nat), .string C.nd.n, .int .i64 C.nd.z0, .int .i64 C.nd.z1, .int .i64 C.nd.z2, .slice a2 C.nd.ls.length c2, .slice a3 C.nd.ts.length c3, .string C.td.n, .int .i64 C.td.z0, .int .i64 C.td.z1, .int .i64 C.td.z2, .slice a4 C.td.ws.length c4, .slice a5 C.td.bs.length c5, .string C.td.g, .string C.td.a, .int .i64 C.td.r, .string C.na, .string C.on, .int .u64 (C.fe : Nat)]] z fun e w' => e = .returned (.int .i64 (r : Nat)) ∧ StE w' w.heap.size (w.heap.size + 1 + 1 + 1 + 1) b' ∧ Chg w.heap.size (w.heap.size + 1 + 1 + 1 + 1) z w') := fun z v1 v3 v5 m1 m3 hz hst => change_is b b' r _ _ v1 v3 v5 m1 m3 C a2 a3 a4 a5 c2 c3 c4 c5 z hst (hB.fine hc) (chk_lists hc) (hdn.on hz) hfn (hdt.on hz) hft hk hv
  have t7 : ((C.k : Int) == 7) = false := by simp; omega
  have t8 : ¬ (C.k : Int) = 7 := by omega
  obtain ⟨an, cn, hvn⟩ := hB.hn.slice
  obtain ⟨at', ct, hvt⟩ := hB.ht.slice
  obtain ⟨ab, cb, hvb⟩ := hB.hb.slice
  subst hvn hvt hvb
  have HW := Lib.hid hW0
  have HF0 : Hid (Fr4 w W0 [.slice an b.ns.length cn, .slice at' b.ts.length ct, .slice ab b.bs.length cb, .int .u64 (b.fe : Nat)] [.int .u8 (C.k : Nat), .string C.nd.n, .int .i64 C.nd.z0, .int .i64 C.nd.z1, .int .i64 C.nd.z2, .slice a2 C.nd.ls.length c2, .slice a3 C.nd.ts.length c3, .string C.td.n, .int .i64 C.td.z0, .int .i64 C.td.z1, .int .i64 C.td.z2, .slice a4 C.td.ws.length c4, .slice a5 C.td.bs.length c5, .string C.td.g, .string C.td.a, .int .i64 C.td.r, .string C.na, .string C.on, .int .u64 (C.fe : Nat)] [.slice none 0 0, .slice none 0 0, .slice none 0 0, .int .u64 0] [.int .i64 0, .string ⟨#[]⟩]) := hf0
  rw [ho] at HCO
  clear hW0 hf0 hB hc ho hdn hfn hdt hft hk hv
  go_enter Tryz.func21, Tryz.ntmps21
  go_upto_region 1 with fail
  rw [← HW.out]
  have b0 : W0.cell? ⟨w.heap.size, 0, none⟩ = some (.slice an b.ns.length cn) := HF0.out.p.cell 0
  have b1 : W0.cell? ⟨w.heap.size, 1, none⟩ = some (.slice at' b.ts.length ct) := HF0.out.p.cell 1
  have b2 : W0.cell? ⟨w.heap.size, 2, none⟩ = some (.slice ab b.bs.length cb) := HF0.out.p.cell 2
  have b3 : W0.cell? ⟨w.heap.size, 3, none⟩ = some (.int .u64 (b.fe : Nat)) := HF0.out.p.cell 3
  go_wp2_with fail
  refine HCK.out.mono ?_
  rintro e w1 ⟨rfl, hb⟩
  have HF1 : Hid (Fr4 w w1 [.slice an b.ns.length cn, .slice at' b.ts.length ct, .slice ab b.bs.length cb, .int .u64 (b.fe : Nat)] [.int .u8 (C.k : Nat), .string C.nd.n, .int .i64 C.nd.z0, .int .i64 C.nd.z1, .int .i64 C.nd.z2, .slice a2 C.nd.ls.length c2, .slice a3 C.nd.ts.length c3, .string C.td.n, .int .i64 C.td.z0, .int .i64 C.td.z1, .int .i64 C.td.z2, .slice a4 C.td.ws.length c4, .slice a5 C.td.bs.length c5, .string C.td.g, .string C.td.a, .int .i64 C.td.r, .string C.na, .string C.on, .int .u64 (C.fe : Nat)] [.slice none 0 0, .slice none 0 0, .slice none 0 0, .int .u64 0] [.int .i64 0, .string ⟨#[]⟩]) := HF0.out.below hb
  clear hb b0 b1 b2 b3
  go_upto_region 4 with fail
  refine wp_region_list ?_
  refine wpList_load_mid rfl 27 (.tmp 2) rfl w.heap.size 0 rfl [.slice an b.ns.length cn, .slice at' b.ts.length ct, .slice ab b.bs.length cb, .int .u64 (b.fe : Nat)] _ (HF1.out.p.range 0) Tryz.underlying27 rfl rfl ?_
  refine wpList_plain rfl fun K hK => ?_
  go_wp2_with fail
  refine (HCL.out w1 HF1.out.b).mono ?_
  rintro e w2 ⟨v1, v3, v5, m1, m3, rfl, he1, he3, hol, hb⟩
  obtain ⟨a1, d1, rfl⟩ := hol.hn.slice
  obtain ⟨a3', d3, rfl⟩ := hol.ht.slice
  obtain ⟨a5', d5, rfl⟩ := hol.hb.slice
  have HF2 : Hid (Fr4 w w2 [.slice an b.ns.length cn, .slice at' b.ts.length ct, .slice ab b.bs.length cb, .int .u64 (b.fe : Nat)] [.int .u8 (C.k : Nat), .string C.nd.n, .int .i64 C.nd.z0, .int .i64 C.nd.z1, .int .i64 C.nd.z2, .slice a2 C.nd.ls.length c2, .slice a3 C.nd.ts.length c3, .string C.td.n, .int .i64 C.td.z0, .int .i64 C.td.z1, .int .i64 C.td.z2, .slice a4 C.td.ws.length c4, .slice a5 C.td.bs.length c5, .string C.td.g, .string C.td.a, .int .i64 C.td.r, .string C.na, .string C.on, .int .u64 (C.fe : Nat)] [.slice none 0 0, .slice none 0 0, .slice none 0 0, .int .u64 0] [.int .i64 0, .string ⟨#[]⟩]) := HF1.out.below hb
  have HO2 : Hid (OwnL w2 (w.heap.size + 1 + 1 + 1 + 1) (.slice a1 m1.length d1) (.slice a3' m3.length d3) (.slice a5' b.bs.length d5) m1 m3 b.bs) := hol.le HF1.out.s
  have HE1 := Lib.hid he1
  have HE3 := Lib.hid he3
  clear hb hol he1 he3
  refine hK _ _ ?_
  clear hK K
  have hthP := HF2.out.p.there 4 rfl
  refine wpList_store_mid rfl 27 (.tmp 2) (.tmp 17) rfl w.heap.size 0 #[.slice a1 m1.length d1, .slice a3' m3.length d3, .slice a5' b.bs.length d5, .int .u64 (b.fe : Nat)] rfl rfl hthP rfl (all_oneCell_toArray (b4_one _)) ?_
  rw [show (#[.slice a1 m1.length d1, .slice a3' m3.length d3, .slice a5' b.bs.length d5, .int .u64 (b.fe : Nat)] : Array Value).toList = [.slice a1 m1.length d1, .slice a3' m3.length d3, .slice a5' b.bs.length d5, .int .u64 (b.fe : Nat)] from rfl]
  have HF3 : Hid (Fr4 w (w2.setCells w.heap.size 0 [.slice a1 m1.length d1, .slice a3' m3.length d3, .slice a5' b.bs.length d5, .int .u64 (b.fe : Nat)]) [.slice a1 m1.length d1, .slice a3' m3.length d3, .slice a5' b.bs.length d5, .int .u64 (b.fe : Nat)] [.int .u8 (C.k : Nat), .string C.nd.n, .int .i64 C.nd.z0, .int .i64 C.nd.z1, .int .i64 C.nd.z2, .slice a2 C.nd.ls.length c2, .slice a3 C.nd.ts.length c3, .string C.td.n, .int .i64 C.td.z0, .int .i64 C.td.z1, .int .i64 C.td.z2, .slice a4 C.td.ws.length c4, .slice a5 C.td.bs.length c5, .string C.td.g, .string C.td.a, .int .i64 C.td.r, .string C.na, .string C.on, .int .u64 (C.fe : Nat)] [.slice none 0 0, .slice none 0 0, .slice none 0 0, .int .u64 0] [.int .i64 0, .string ⟨#[]⟩]) := HF2.out.setP [.slice a1 m1.length d1, .slice a3' m3.length d3, .slice a5' b.bs.length d5, .int .u64 (b.fe : Nat)] rfl
  have HO3 : Hid (OwnL (w2.setCells w.heap.size 0 [.slice a1 m1.length d1, .slice a3' m3.length d3, .slice a5' b.bs.length d5, .int .u64 (b.fe : Nat)]) (w.heap.size + 1 + 1 + 1 + 1) (.slice a1 m1.length d1) (.slice a3' m3.length d3) (.slice a5' b.bs.length d5) m1 m3 b.bs) := ownl_set HO2.out (by omega)
  clear hthP HF2 HO2 HF1
  generalize w2.setCells w.heap.size 0 [.slice a1 m1.length d1, .slice a3' m3.length d3, .slice a5' b.bs.length d5, .int .u64 (b.fe : Nat)] = w3 at *
  refine wpList_nil ?_
  go_upto_region 5 with fail
  refine wp_region_list ?_
  refine wpList_load_mid rfl 55 (.tmp 3) rfl (w.heap.size + 1) 0 rfl [.int .u8 (C.k : Nat), .string C.nd.n, .int .i64 C.nd.z0, .int .i64 C.nd.z1, .int .i64 C.nd.z2, .slice a2 C.nd.ls.length c2, .slice a3 C.nd.ts.length c3, .string C.td.n, .int .i64 C.td.z0, .int .i64 C.td.z1, .int .i64 C.td.z2, .slice a4 C.td.ws.length c4, .slice a5 C.td.bs.length c5, .string C.td.g, .string C.td.a, .int .i64 C.td.r, .string C.na, .string C.on, .int .u64 (C.fe : Nat)] _ (HF3.out.o.range 0) Tryz.underlying55 rfl rfl ?_
  refine wpList_plain rfl fun K hK => ?_
  go_wp2_with fail
  refine (HCO.out w3).mono ?_
  rintro e w4 ⟨rfl, hb⟩
  have HF4 : Hid (Fr4 w w4 [.slice a1 m1.length d1, .slice a3' m3.length d3, .slice a5' b.bs.length d5, .int .u64 (b.fe : Nat)] [.int .u8 (C.k : Nat), .string C.nd.n, .int .i64 C.nd.z0, .int .i64 C.nd.z1, .int .i64 C.nd.z2, .slice a2 C.nd.ls.length c2, .slice a3 C.nd.ts.length c3, .string C.td.n, .int .i64 C.td.z0, .int .i64 C.td.z1, .int .i64 C.td.z2, .slice a4 C.td.ws.length c4, .slice a5 C.td.bs.length c5, .string C.td.g, .string C.td.a, .int .i64 C.td.r, .string C.na, .string C.on, .int .u64 (C.fe : Nat)] [.slice none 0 0, .slice none 0 0, .slice none 0 0, .int .u64 0] [.int .i64 0, .string ⟨#[]⟩]) := HF3.out.below hb
  have HL : Hid (OwnL w4 (w.heap.size + 1 + 1 + 1 + 1) (.slice a1 m1.length d1) (.slice a3' m3.length d3) (.slice a5' b.bs.length d5) m1 m3 b.bs) := HO3.out.keep hb
  clear hb HF3 HO3
  refine hK _ _ ?_
  clear hK K
  have o0 : w4.cell? ⟨w.heap.size + 1, 0, none⟩ = some (.int .u8 (C.k : Nat)) := HF4.out.o.cell 0
  go_upto_region 10 with fail
  clear o0
  refine wp_region_list ?_
  refine wpList_load_mid rfl 55 (.tmp 3) rfl (w.heap.size + 1) 0 rfl [.int .u8 (C.k : Nat), .string C.nd.n, .int .i64 C.nd.z0, .int .i64 C.nd.z1, .int .i64 C.nd.z2, .slice a2 C.nd.ls.length c2, .slice a3 C.nd.ts.length c3, .string C.td.n, .int .i64 C.td.z0, .int .i64 C.td.z1, .int .i64 C.td.z2, .slice a4 C.td.ws.length c4, .slice a5 C.td.bs.length c5, .string C.td.g, .string C.td.a, .int .i64 C.td.r, .string C.na, .string C.on, .int .u64 (C.fe : Nat)] _ (HF4.out.o.range 0) Tryz.underlying55 rfl rfl ?_
  refine wpList_plain rfl fun K hK => ?_
  go_wp2_with fail
  refine (HCH.out w4 _ _ _ m1 m3 HF4.out.b ⟨HE1.out, HE3.out, HF4.out.p, HL.out, by omega, HF4.out.s⟩).mono ?_
  rintro e w5 ⟨rfl, ⟨v6, v7, v8, m6, m7, hst⟩, hch⟩
  obtain ⟨a6, d6, rfl⟩ := hst.ow.hn.slice
  obtain ⟨a7, d7, rfl⟩ := hst.ow.ht.slice
  obtain ⟨a8, d8, rfl⟩ := hst.ow.hb.slice
  have HF5 : Hid (Fr4 w w5 [.slice a6 m6.length d6, .slice a7 m7.length d7, .slice a8 b'.bs.length d8, .int .u64 (b'.fe : Nat)] [.int .u8 (C.k : Nat), .string C.nd.n, .int .i64 C.nd.z0, .int .i64 C.nd.z1, .int .i64 C.nd.z2, .slice a2 C.nd.ls.length c2, .slice a3 C.nd.ts.length c3, .string C.td.n, .int .i64 C.td.z0, .int .i64 C.td.z1, .int .i64 C.td.z2, .slice a4 C.td.ws.length c4, .slice a5 C.td.bs.length c5, .string C.td.g, .string C.td.a, .int .i64 C.td.r, .string C.na, .string C.on, .int .u64 (C.fe : Nat)] [.slice none 0 0, .slice none 0 0, .slice none 0 0, .int .u64 0] [.int .i64 0, .string ⟨#[]⟩]) := HF4.out.chg hch hst.bx
  have HE6 := Lib.hid hst.en
  have HE7 := Lib.hid hst.et
  have HL : Hid (OwnL w5 (w.heap.size + 1 + 1 + 1 + 1) (.slice a6 m6.length d6) (.slice a7 m7.length d7) (.slice a8 b'.bs.length d8) m6 m7 b'.bs) := hst.ow
  clear hst hch HF4
  refine hK _ _ ?_
  clear hK K
  go_upto_region 11 with fail
  refine wp_region_list ?_
  refine wpList_load_mid rfl 27 (.tmp 2) rfl w.heap.size 0 rfl [.slice a6 m6.length d6, .slice a7 m7.length d7, .slice a8 b'.bs.length d8, .int .u64 (b'.fe : Nat)] _ (HF5.out.p.range 0) Tryz.underlying27 rfl rfl ?_
  refine wpList_plain rfl fun K hK => ?_
  go_simp
  refine hK _ _ ?_
  clear hK K
  refine wpList_plain rfl fun K hK => ?_
  go_simp
  refine hK _ _ ?_
  clear hK K
  have hthR := HF5.out.r.there 4 rfl
  refine wpList_store_mid rfl 27 (.tmp 4) (.tmp 35) rfl (w.heap.size + 1 + 1) 0 #[.slice a6 m6.length d6, .slice a7 m7.length d7, .slice a8 b'.bs.length d8, .int .u64 (b'.fe : Nat)] rfl rfl hthR rfl (all_oneCell_toArray (b4_one _)) ?_
  rw [show (#[.slice a6 m6.length d6, .slice a7 m7.length d7, .slice a8 b'.bs.length d8, .int .u64 (b'.fe : Nat)] : Array Value).toList = [.slice a6 m6.length d6, .slice a7 m7.length d7, .slice a8 b'.bs.length d8, .int .u64 (b'.fe : Nat)] from rfl]
  have HR1 : Hid (Fr4 w (w5.setCells (w.heap.size + 1 + 1) 0 [.slice a6 m6.length d6, .slice a7 m7.length d7, .slice a8 b'.bs.length d8, .int .u64 (b'.fe : Nat)]) [.slice a6 m6.length d6, .slice a7 m7.length d7, .slice a8 b'.bs.length d8, .int .u64 (b'.fe : Nat)] [.int .u8 (C.k : Nat), .string C.nd.n, .int .i64 C.nd.z0, .int .i64 C.nd.z1, .int .i64 C.nd.z2, .slice a2 C.nd.ls.length c2, .slice a3 C.nd.ts.length c3, .string C.td.n, .int .i64 C.td.z0, .int .i64 C.td.z1, .int .i64 C.td.z2, .slice a4 C.td.ws.length c4, .slice a5 C.td.bs.length c5, .string C.td.g, .string C.td.a, .int .i64 C.td.r, .string C.na, .string C.on, .int .u64 (C.fe : Nat)] [.slice a6 m6.length d6, .slice a7 m7.length d7, .slice a8 b'.bs.length d8, .int .u64 (b'.fe : Nat)] [.int .i64 0, .string ⟨#[]⟩]) := HF5.out.setR [.slice a6 m6.length d6, .slice a7 m7.length d7, .slice a8 b'.bs.length d8, .int .u64 (b'.fe : Nat)] rfl
  have HL1 : Hid (OwnL (w5.setCells (w.heap.size + 1 + 1) 0 [.slice a6 m6.length d6, .slice a7 m7.length d7, .slice a8 b'.bs.length d8, .int .u64 (b'.fe : Nat)]) (w.heap.size + 1 + 1 + 1 + 1) (.slice a6 m6.length d6) (.slice a7 m7.length d7) (.slice a8 b'.bs.length d8) m6 m7 b'.bs) := ownl_set HL.out (by omega)
  clear hthR
  generalize w5.setCells (w.heap.size + 1 + 1) 0 [.slice a6 m6.length d6, .slice a7 m7.length d7, .slice a8 b'.bs.length d8, .int .u64 (b'.fe : Nat)] = z1 at *
  have hthT := HR1.out.t.there 2 rfl
  refine wpList_store_mid rfl 50 (.tmp 5) (.tmp 37) rfl (w.heap.size + 1 + 1 + 1) 0 #[.int .i64 (r : Nat), .string ⟨#[]⟩] rfl rfl hthT rfl (all_oneCell_toArray (tlC_one _ _)) ?_
  rw [show (#[.int .i64 (r : Nat), .string ⟨#[]⟩] : Array Value).toList = [.int .i64 (r : Nat), .string ⟨#[]⟩] from rfl]
  have HR2 : Hid (Fr4 w (z1.setCells (w.heap.size + 1 + 1 + 1) 0 [.int .i64 (r : Nat), .string ⟨#[]⟩]) [.slice a6 m6.length d6, .slice a7 m7.length d7, .slice a8 b'.bs.length d8, .int .u64 (b'.fe : Nat)] [.int .u8 (C.k : Nat), .string C.nd.n, .int .i64 C.nd.z0, .int .i64 C.nd.z1, .int .i64 C.nd.z2, .slice a2 C.nd.ls.length c2, .slice a3 C.nd.ts.length c3, .string C.td.n, .int .i64 C.td.z0, .int .i64 C.td.z1, .int .i64 C.td.z2, .slice a4 C.td.ws.length c4, .slice a5 C.td.bs.length c5, .string C.td.g, .string C.td.a, .int .i64 C.td.r, .string C.na, .string C.on, .int .u64 (C.fe : Nat)] [.slice a6 m6.length d6, .slice a7 m7.length d7, .slice a8 b'.bs.length d8, .int .u64 (b'.fe : Nat)] [.int .i64 (r : Nat), .string ⟨#[]⟩]) := HR1.out.setT [.int .i64 (r : Nat), .string ⟨#[]⟩] rfl
  have HL2 : Hid (OwnL (z1.setCells (w.heap.size + 1 + 1 + 1) 0 [.int .i64 (r : Nat), .string ⟨#[]⟩]) (w.heap.size + 1 + 1 + 1 + 1) (.slice a6 m6.length d6) (.slice a7 m7.length d7) (.slice a8 b'.bs.length d8) m6 m7 b'.bs) := ownl_set HL1.out (by omega)
  clear hthT
  generalize z1.setCells (w.heap.size + 1 + 1 + 1) 0 [.int .i64 (r : Nat), .string ⟨#[]⟩] = z2 at *
  refine wpList_nil ?_
  go_wp2
  exact bodyPost_bxbx rfl (w.heap.size + 1 + 1) (w.heap.size + 1 + 1 + 1) [.slice a6 m6.length d6, .slice a7 m7.length d7, .slice a8 b'.bs.length d8, .int .u64 (b'.fe : Nat)] [.int .i64 (r : Nat), .string ⟨#[]⟩] _ _ rfl rfl rfl HR2.out.r HR2.out.t Tryz.underlying27 rfl rfl Tryz.underlying50 rfl rfl (Gave.mk (b := b') (r := r) (s := ByteArray.empty) m6 m7 (HE6.out) (HE7.out) (HL2.out.le (by omega)) HR2.out.b)
end Bo
end Go.Proofs.YthbmnkeigmbbdaaGreat

/-
  AN ORDER THAT LOOKS: book.Do.
-/
namespace Go.Proofs.YthbmnkeigmbbdaaGreat
open Go.RowKit Go.Lib
namespace Bo
open Rw
set_option linter.unusedVariables false
set_option maxRecDepth 100000 in
set_option maxHeartbeats 4000000 in
theorem do_look (b : Bk) (vn vt vb : Value) (C : Hd.Cd) (a2 a3 a4 a5 : Option Addr) (c2 c3 c4 c5 : Nat) (w : World) (hB : Books w w.heap.size vn vt vb b) (r : Nat) (s : ByteArray) (hc : chkB b = true) (ho : Hd.coB C = true) (hk : C.k = 7) (hv : lkV b C.na = (r, s)) :
    Calls Tryz.prog 21 #[.agg #[vn, vt, vb, .int .u64 (b.fe : Nat)], .agg #[.int .u8 (C.k : Nat), .string C.nd.n, .int .i64 C.nd.z0, .int .i64 C.nd.z1, .int .i64 C.nd.z2, .slice a2 C.nd.ls.length c2, .slice a3 C.nd.ts.length c3, .string C.td.n, .int .i64 C.td.z0, .int .i64 C.td.z1, .int .i64 C.td.z2, .slice a4 C.td.ws.length c4, .slice a5 C.td.bs.length c5, .string C.td.g, .string C.td.a, .int .i64 C.td.r, .string C.na, .string C.on, .int .u64 (C.fe : Nat)]] w (Gave b r s w) := by
  obtain ⟨W0, hW0⟩ : ∃ W0, W0 = (((w.alloc (.cells #[vn, vt, vb, .int .u64 (b.fe : Nat)] 27)).alloc (.cells #[.int .u8 (C.k : Nat), .string C.nd.n, .int .i64 C.nd.z0, .int .i64 C.nd.z1, .int .i64 C.nd.z2, .slice a2 C.nd.ls.length c2, .slice a3 C.nd.ts.length c3, .string C.td.n, .int .i64 C.td.z0, .int .i64 C.td.z1, .int .i64 C.td.z2, .slice a4 C.td.ws.length c4, .slice a5 C.td.bs.length c5, .string C.td.g, .string C.td.a, .int .i64 C.td.r, .string C.na, .string C.on, .int .u64 (C.fe : Nat)] 55)).alloc (.cells #[.slice none 0 0, .slice none 0 0, .slice none 0 0, .int .u64 0] 27)).alloc (.cells #[.int .i64 0, .string ⟨#[]⟩] 50) := ⟨_, rfl⟩
  have hf0 : Fr4 w W0 [vn, vt, vb, .int .u64 (b.fe : Nat)] [.int .u8 (C.k : Nat), .string C.nd.n, .int .i64 C.nd.z0, .int .i64 C.nd.z1, .int .i64 C.nd.z2, .slice a2 C.nd.ls.length c2, .slice a3 C.nd.ts.length c3, .string C.td.n, .int .i64 C.td.z0, .int .i64 C.td.z1, .int .i64 C.td.z2, .slice a4 C.td.ws.length c4, .slice a5 C.td.bs.length c5, .string C.td.g, .string C.td.a, .int .i64 C.td.r, .string C.na, .string C.on, .int .u64 (C.fe : Nat)] [.slice none 0 0, .slice none 0 0, .slice none 0 0, .int .u64 0] [.int .i64 0, .string ⟨#[]⟩] := by rw [hW0]; exact Fr4.made w _ _ _ _ _ _ _
  have HCK : Hid (Calls Tryz.prog 28 #[.agg #[vn, vt, vb, .int .u64 (b.fe : Nat)]] W0 fun e w' => e = .returned (.int .i64 0) ∧ Below W0.heap.size W0 w') := (check_any b vn vt vb W0 (hB.on hf0.b)).mono fun e w' ⟨he, hb⟩ => ⟨by rw [hc] at he; exact he, hb⟩
  have HCL : Hid (∀ z, Hid (Below w.heap.size w z) → Calls Tryz.prog 51 #[.agg #[vn, vt, vb, .int .u64 (b.fe : Nat)]] z (ClnB b z)) := fun z hz => clone_bk b vn vt vb z (hB.on hz.out) (hB.fine hc)
  have HCO : Hid (∀ z, Calls Tryz.prog 52 #[.agg #[.int .u8 (C.k : Nat), .string C.nd.n, .int .i64 C.nd.z0, .int .i64 C.nd.z1, .int .i64 C.nd.z2, .slice a2 C.nd.ls.length c2, .slice a3 C.nd.ts.length c3, .string C.td.n, .int .i64 C.td.z0, .int .i64 C.td.z1, .int .i64 C.td.z2, .slice a4 C.td.ws.length c4, .slice a5 C.td.bs.length c5, .string C.td.g, .string C.td.a, .int .i64 C.td.r, .string C.na, .string C.on, .int .u64 (C.fe : Nat)]] z fun e w' => e = .returned (.int .i64 (Hd.coE (Hd.coB C) : Nat)) ∧ Below z.heap.size z w') := fun z => Hd.checkOrder_bo C a2 a3 a4 a5 c2 c3 c4 c5 z
  have HLK : Hid (∀ z v1 v3 v5 m1 m3, Hid (OwnL z (w.heap.size + 1 + 1 + 1 + 1) v1 v3 v5 m1 m3 b.bs) → b.ns = m1.map (·.nd) → b.ts = m3.map (·.td) → Calls Tryz.prog 53 #[.agg #[v1, v3, v5, .int .u64 (b.fe : Nat)], .string C.na] z fun e w' => e = .returned (.agg #[.int .i64 (r : Nat), .string s]) ∧ Below z.heap.size z w') := fun z v1 v3 v5 m1 m3 hz h1 h3 => look_is b v1 v3 v5 C.na s r z (hz.out.books h1 h3 (hB.fine hc)) (hB.fine hc) (chk_lists hc) hv
  have HK := Lib.hid hk
  obtain ⟨an, cn, hvn⟩ := hB.hn.slice
  obtain ⟨at', ct, hvt⟩ := hB.ht.slice
  obtain ⟨ab, cb, hvb⟩ := hB.hb.slice
  subst hvn hvt hvb
  have HW := Lib.hid hW0
  have HF0 : Hid (Fr4 w W0 [.slice an b.ns.length cn, .slice at' b.ts.length ct, .slice ab b.bs.length cb, .int .u64 (b.fe : Nat)] [.int .u8 (C.k : Nat), .string C.nd.n, .int .i64 C.nd.z0, .int .i64 C.nd.z1, .int .i64 C.nd.z2, .slice a2 C.nd.ls.length c2, .slice a3 C.nd.ts.length c3, .string C.td.n, .int .i64 C.td.z0, .int .i64 C.td.z1, .int .i64 C.td.z2, .slice a4 C.td.ws.length c4, .slice a5 C.td.bs.length c5, .string C.td.g, .string C.td.a, .int .i64 C.td.r, .string C.na, .string C.on, .int .u64 (C.fe : Nat)] [.slice none 0 0, .slice none 0 0, .slice none 0 0, .int .u64 0] [.int .i64 0, .string ⟨#[]⟩]) := hf0
  rw [ho] at HCO
  clear hW0 hf0 hB hc ho hk hv
  go_enter Tryz.func21, Tryz.ntmps21
  go_upto_region 1 with fail
  rw [← HW.out]
  have b0 : W0.cell? ⟨w.heap.size, 0, none⟩ = some (.slice an b.ns.length cn) := HF0.out.p.cell 0
  have b1 : W0.cell? ⟨w.heap.size, 1, none⟩ = some (.slice at' b.ts.length ct) := HF0.out.p.cell 1
  have b2 : W0.cell? ⟨w.heap.size, 2, none⟩ = some (.slice ab b.bs.length cb) := HF0.out.p.cell 2
  have b3 : W0.cell? ⟨w.heap.size, 3, none⟩ = some (.int .u64 (b.fe : Nat)) := HF0.out.p.cell 3
  go_wp2_with fail
  refine HCK.out.mono ?_
  rintro e w1 ⟨rfl, hb⟩
  have HF1 : Hid (Fr4 w w1 [.slice an b.ns.length cn, .slice at' b.ts.length ct, .slice ab b.bs.length cb, .int .u64 (b.fe : Nat)] [.int .u8 (C.k : Nat), .string C.nd.n, .int .i64 C.nd.z0, .int .i64 C.nd.z1, .int .i64 C.nd.z2, .slice a2 C.nd.ls.length c2, .slice a3 C.nd.ts.length c3, .string C.td.n, .int .i64 C.td.z0, .int .i64 C.td.z1, .int .i64 C.td.z2, .slice a4 C.td.ws.length c4, .slice a5 C.td.bs.length c5, .string C.td.g, .string C.td.a, .int .i64 C.td.r, .string C.na, .string C.on, .int .u64 (C.fe : Nat)] [.slice none 0 0, .slice none 0 0, .slice none 0 0, .int .u64 0] [.int .i64 0, .string ⟨#[]⟩]) := HF0.out.below hb
  clear hb b0 b1 b2 b3
  go_upto_region 4 with fail
  refine wp_region_list ?_
  refine wpList_load_mid rfl 27 (.tmp 2) rfl w.heap.size 0 rfl [.slice an b.ns.length cn, .slice at' b.ts.length ct, .slice ab b.bs.length cb, .int .u64 (b.fe : Nat)] _ (HF1.out.p.range 0) Tryz.underlying27 rfl rfl ?_
  refine wpList_plain rfl fun K hK => ?_
  go_wp2_with fail
  refine (HCL.out w1 HF1.out.b).mono ?_
  rintro e w2 ⟨v1, v3, v5, m1, m3, rfl, he1, he3, hol, hb⟩
  obtain ⟨a1, d1, rfl⟩ := hol.hn.slice
  obtain ⟨a3', d3, rfl⟩ := hol.ht.slice
  obtain ⟨a5', d5, rfl⟩ := hol.hb.slice
  have HF2 : Hid (Fr4 w w2 [.slice an b.ns.length cn, .slice at' b.ts.length ct, .slice ab b.bs.length cb, .int .u64 (b.fe : Nat)] [.int .u8 (C.k : Nat), .string C.nd.n, .int .i64 C.nd.z0, .int .i64 C.nd.z1, .int .i64 C.nd.z2, .slice a2 C.nd.ls.length c2, .slice a3 C.nd.ts.length c3, .string C.td.n, .int .i64 C.td.z0, .int .i64 C.td.z1, .int .i64 C.td.z2, .slice a4 C.td.ws.length c4, .slice a5 C.td.bs.length c5, .string C.td.g, .string C.td.a, .int .i64 C.td.r, .string C.na, .string C.on, .int .u64 (C.fe : Nat)] [.slice none 0 0, .slice none 0 0, .slice none 0 0, .int .u64 0] [.int .i64 0, .string ⟨#[]⟩]) := HF1.out.below hb
  have HO2 : Hid (OwnL w2 (w.heap.size + 1 + 1 + 1 + 1) (.slice a1 m1.length d1) (.slice a3' m3.length d3) (.slice a5' b.bs.length d5) m1 m3 b.bs) := hol.le HF1.out.s
  have HE1 := Lib.hid he1
  have HE3 := Lib.hid he3
  clear hb hol he1 he3
  refine hK _ _ ?_
  clear hK K
  have hthP := HF2.out.p.there 4 rfl
  refine wpList_store_mid rfl 27 (.tmp 2) (.tmp 17) rfl w.heap.size 0 #[.slice a1 m1.length d1, .slice a3' m3.length d3, .slice a5' b.bs.length d5, .int .u64 (b.fe : Nat)] rfl rfl hthP rfl (all_oneCell_toArray (b4_one _)) ?_
  rw [show (#[.slice a1 m1.length d1, .slice a3' m3.length d3, .slice a5' b.bs.length d5, .int .u64 (b.fe : Nat)] : Array Value).toList = [.slice a1 m1.length d1, .slice a3' m3.length d3, .slice a5' b.bs.length d5, .int .u64 (b.fe : Nat)] from rfl]
  have HF3 : Hid (Fr4 w (w2.setCells w.heap.size 0 [.slice a1 m1.length d1, .slice a3' m3.length d3, .slice a5' b.bs.length d5, .int .u64 (b.fe : Nat)]) [.slice a1 m1.length d1, .slice a3' m3.length d3, .slice a5' b.bs.length d5, .int .u64 (b.fe : Nat)] [.int .u8 (C.k : Nat), .string C.nd.n, .int .i64 C.nd.z0, .int .i64 C.nd.z1, .int .i64 C.nd.z2, .slice a2 C.nd.ls.length c2, .slice a3 C.nd.ts.length c3, .string C.td.n, .int .i64 C.td.z0, .int .i64 C.td.z1, .int .i64 C.td.z2, .slice a4 C.td.ws.length c4, .slice a5 C.td.bs.length c5, .string C.td.g, .string C.td.a, .int .i64 C.td.r, .string C.na, .string C.on, .int .u64 (C.fe : Nat)] [.slice none 0 0, .slice none 0 0, .slice none 0 0, .int .u64 0] [.int .i64 0, .string ⟨#[]⟩]) := HF2.out.setP [.slice a1 m1.length d1, .slice a3' m3.length d3, .slice a5' b.bs.length d5, .int .u64 (b.fe : Nat)] rfl
  have HO3 : Hid (OwnL (w2.setCells w.heap.size 0 [.slice a1 m1.length d1, .slice a3' m3.length d3, .slice a5' b.bs.length d5, .int .u64 (b.fe : Nat)]) (w.heap.size + 1 + 1 + 1 + 1) (.slice a1 m1.length d1) (.slice a3' m3.length d3) (.slice a5' b.bs.length d5) m1 m3 b.bs) := ownl_set HO2.out (by omega)
  clear hthP HF2 HO2 HF1
  generalize w2.setCells w.heap.size 0 [.slice a1 m1.length d1, .slice a3' m3.length d3, .slice a5' b.bs.length d5, .int .u64 (b.fe : Nat)] = w3 at *
  refine wpList_nil ?_
  go_upto_region 5 with fail
  refine wp_region_list ?_
  refine wpList_load_mid rfl 55 (.tmp 3) rfl (w.heap.size + 1) 0 rfl [.int .u8 (C.k : Nat), .string C.nd.n, .int .i64 C.nd.z0, .int .i64 C.nd.z1, .int .i64 C.nd.z2, .slice a2 C.nd.ls.length c2, .slice a3 C.nd.ts.length c3, .string C.td.n, .int .i64 C.td.z0, .int .i64 C.td.z1, .int .i64 C.td.z2, .slice a4 C.td.ws.length c4, .slice a5 C.td.bs.length c5, .string C.td.g, .string C.td.a, .int .i64 C.td.r, .string C.na, .string C.on, .int .u64 (C.fe : Nat)] _ (HF3.out.o.range 0) Tryz.underlying55 rfl rfl ?_
  refine wpList_plain rfl fun K hK => ?_
  go_wp2_with fail
  refine (HCO.out w3).mono ?_
  rintro e w4 ⟨rfl, hb⟩
  have HF4 : Hid (Fr4 w w4 [.slice a1 m1.length d1, .slice a3' m3.length d3, .slice a5' b.bs.length d5, .int .u64 (b.fe : Nat)] [.int .u8 (C.k : Nat), .string C.nd.n, .int .i64 C.nd.z0, .int .i64 C.nd.z1, .int .i64 C.nd.z2, .slice a2 C.nd.ls.length c2, .slice a3 C.nd.ts.length c3, .string C.td.n, .int .i64 C.td.z0, .int .i64 C.td.z1, .int .i64 C.td.z2, .slice a4 C.td.ws.length c4, .slice a5 C.td.bs.length c5, .string C.td.g, .string C.td.a, .int .i64 C.td.r, .string C.na, .string C.on, .int .u64 (C.fe : Nat)] [.slice none 0 0, .slice none 0 0, .slice none 0 0, .int .u64 0] [.int .i64 0, .string ⟨#[]⟩]) := HF3.out.below hb
  have HL : Hid (OwnL w4 (w.heap.size + 1 + 1 + 1 + 1) (.slice a1 m1.length d1) (.slice a3' m3.length d3) (.slice a5' b.bs.length d5) m1 m3 b.bs) := HO3.out.keep hb
  clear hb HF3 HO3
  refine hK _ _ ?_
  clear hK K
  have o0 : w4.cell? ⟨w.heap.size + 1, 0, none⟩ = some (.int .u8 7) := by have h := HF4.out.o.cell 0; rw [HK.out] at h; exact h
  go_upto_region 9 with fail
  clear o0
  have H4d : Hid (Fr4 w w4.drew [.slice a1 m1.length d1, .slice a3' m3.length d3, .slice a5' b.bs.length d5, .int .u64 (b.fe : Nat)] [.int .u8 (C.k : Nat), .string C.nd.n, .int .i64 C.nd.z0, .int .i64 C.nd.z1, .int .i64 C.nd.z2, .slice a2 C.nd.ls.length c2, .slice a3 C.nd.ts.length c3, .string C.td.n, .int .i64 C.td.z0, .int .i64 C.td.z1, .int .i64 C.td.z2, .slice a4 C.td.ws.length c4, .slice a5 C.td.bs.length c5, .string C.td.g, .string C.td.a, .int .i64 C.td.r, .string C.na, .string C.on, .int .u64 (C.fe : Nat)] [.slice none 0 0, .slice none 0 0, .slice none 0 0, .int .u64 0] [.int .i64 0, .string ⟨#[]⟩]) := Lib.hid ⟨HF4.out.p, HF4.out.o, HF4.out.r, HF4.out.t, below_drew HF4.out.b, HF4.out.s⟩
  have HLd : Hid (OwnL w4.drew (w.heap.size + 1 + 1 + 1 + 1) (.slice a1 m1.length d1) (.slice a3' m3.length d3) (.slice a5' b.bs.length d5) m1 m3 b.bs) := Lib.hid (HL.out.keep (below_drew (Below.refl _ _)))
  have HP : Hid (∀ z rs ts, Fr4 w z [.slice a1 m1.length d1, .slice a3' m3.length d3, .slice a5' b.bs.length d5, .int .u64 (b.fe : Nat)] [.int .u8 (C.k : Nat), .string C.nd.n, .int .i64 C.nd.z0, .int .i64 C.nd.z1, .int .i64 C.nd.z2, .slice a2 C.nd.ls.length c2, .slice a3 C.nd.ts.length c3, .string C.td.n, .int .i64 C.td.z0, .int .i64 C.td.z1, .int .i64 C.td.z2, .slice a4 C.td.ws.length c4, .slice a5 C.td.bs.length c5, .string C.td.g, .string C.td.a, .int .i64 C.td.r, .string C.na, .string C.on, .int .u64 (C.fe : Nat)] rs ts → (z.cell? ⟨w.heap.size, 0, none⟩ = some (.slice a1 m1.length d1) ∧ z.cell? ⟨w.heap.size, 1, none⟩ = some (.slice a3' m3.length d3) ∧ z.cell? ⟨w.heap.size, 2, none⟩ = some (.slice a5' b.bs.length d5) ∧ z.cell? ⟨w.heap.size, 3, none⟩ = some (.int .u64 (b.fe : Nat)) ∧ z.cell? ⟨w.heap.size + 1, 16, none⟩ = some (.string C.na))) := fun z rs ts h => ⟨h.p.cell 0, h.p.cell 1, h.p.cell 2, h.p.cell 3, h.o.cell 16⟩
  refine wp_region_held_drew (S := fun z => z.cell? ⟨w.heap.size, 0, none⟩ = some (.slice a1 m1.length d1) ∧ z.cell? ⟨w.heap.size, 1, none⟩ = some (.slice a3' m3.length d3) ∧ z.cell? ⟨w.heap.size, 2, none⟩ = some (.slice a5' b.bs.length d5) ∧ z.cell? ⟨w.heap.size, 3, none⟩ = some (.int .u64 (b.fe : Nat)) ∧ z.cell? ⟨w.heap.size + 1, 16, none⟩ = some (.string C.na)) (by kernel_rfl) (HP.out _ _ _ H4d.out) (fun hHeld => ?_)
  refine wpAnyH_take (i := 2) (v := ?_) rfl (by kernel_rfl) (by kernel_rfl) (by kernel_rfl) (fun _ _ _ h => h) (Or.inl ⟨by rfl, ?_⟩) (by assumption) ?_
  rotate_left
  · intro z hSz
    obtain ⟨c0, c1, c2, c3, c4⟩ := hSz
    go_simp
    try with_reducible rfl
  try simp only [Act.put, List.setIfInBounds_toArray, List.set_cons_zero, List.set_cons_succ, List.getElem_toArray, List.getElem_cons_succ, List.getElem_cons_zero]
  refine wpAnyH_take (i := 0) (v := ?_) rfl (by kernel_rfl) (by kernel_rfl) (by kernel_rfl) (fun _ _ _ h => h) (Or.inl ⟨by rfl, ?_⟩) (by assumption) ?_
  rotate_left
  · intro z hSz
    obtain ⟨c0, c1, c2, c3, c4⟩ := hSz
    go_simp
    try with_reducible rfl
  try simp only [Act.put, List.setIfInBounds_toArray, List.set_cons_zero, List.set_cons_succ, List.getElem_toArray, List.getElem_cons_zero]
  refine wpAnyH_take (i := 1) (v := ?_) rfl (by kernel_rfl) (by kernel_rfl) (by kernel_rfl) (fun _ _ _ h => h) (Or.inl ⟨by rfl, ?_⟩) (by assumption) ?_
  rotate_left
  · intro z hSz
    obtain ⟨c0, c1, c2, c3, c4⟩ := hSz
    go_simp
    try with_reducible rfl
  try simp only [Act.put, List.setIfInBounds_toArray, List.set_cons_zero, List.set_cons_succ, List.getElem_toArray, List.getElem_cons_succ, List.getElem_cons_zero]
  refine wpAnyH_take (i := 3) (v := ?_) rfl (by kernel_rfl) (by kernel_rfl) (by kernel_rfl) (fun _ _ _ h => h) (Or.inl ⟨by rfl, ?_⟩) (by assumption) ?_
  rotate_left
  · intro z hSz
    obtain ⟨c0, c1, c2, c3, c4⟩ := hSz
    go_simp
    try with_reducible rfl
  try simp only [Act.put, List.setIfInBounds_toArray, List.set_cons_zero, List.set_cons_succ, List.getElem_toArray, List.getElem_cons_succ, List.getElem_cons_zero]
  refine wpAnyH_ready (rs := [4]) (by kernel_rfl) (by simp) ?_
  refine AllReadyH.cons rfl (fun K hK => ?_) AllReadyH.nil
  go_simp
  (with_reducible refine (HLK.out _ _ _ _ m1 m3 HLd HE1.out HE3.out).mono ?_)
  rintro e w5 ⟨rfl, hb⟩
  have HF5 := Lib.hid (H4d.out.below hb)
  have HL5 := Lib.hid (HLd.out.keep hb)
  clear hb
  refine hK.out _ _ (HP.out _ _ _ HF5.out) (fun hHeld2 => ?_)
  clear hK K hHeld
  have hHeld := hHeld2
  clear hHeld2
  try simp only [Act.put, List.setIfInBounds_toArray, List.set_cons_zero, List.set_cons_succ, List.getElem_toArray, List.getElem_cons_succ, List.getElem_cons_zero]
  have hthR := HF5.out.r.there 4 rfl
  have HR1 := Lib.hid (HF5.out.setR [.slice a1 m1.length d1, .slice a3' m3.length d3, .slice a5' b.bs.length d5, .int .u64 (b.fe : Nat)] rfl)
  have HL1 : Hid (OwnL (w5.setCells (w.heap.size + 1 + 1) 0 [.slice a1 m1.length d1, .slice a3' m3.length d3, .slice a5' b.bs.length d5, .int .u64 (b.fe : Nat)]) (w.heap.size + 1 + 1 + 1 + 1) (.slice a1 m1.length d1) (.slice a3' m3.length d3) (.slice a5' b.bs.length d5) m1 m3 b.bs) := ownl_set HL5.out (by omega)
  refine wpAnyH_ready (rs := [5]) (by kernel_rfl) (by simp) ?_
  refine AllReadyH.cons rfl (fun K hK => ?_) AllReadyH.nil
  refine wp_store_mid 27 (.tmp 4) (.tmp 28) rfl (w.heap.size + 1 + 1) 0 #[.slice a1 m1.length d1, .slice a3' m3.length d3, .slice a5' b.bs.length d5, .int .u64 (b.fe : Nat)] rfl rfl hthR rfl (all_oneCell_toArray (b4_one _)) ?_
  refine hK.out _ _ (HP.out _ _ _ HR1.out) (fun hHeld2 => ?_)
  clear hK K hHeld
  have hHeld := hHeld2
  clear hHeld2
  try simp only [Act.put, List.getElem_toArray, List.getElem_cons_succ, List.getElem_cons_zero]
  have hthT := HR1.out.t.there 2 rfl
  have HR2 := Lib.hid (HR1.out.setT [.int .i64 (r : Nat), .string s] rfl)
  have HL2 : Hid (OwnL ((w5.setCells (w.heap.size + 1 + 1) 0 [.slice a1 m1.length d1, .slice a3' m3.length d3, .slice a5' b.bs.length d5, .int .u64 (b.fe : Nat)]).setCells (w.heap.size + 1 + 1 + 1) 0 [.int .i64 (r : Nat), .string s]) (w.heap.size + 1 + 1 + 1 + 1) (.slice a1 m1.length d1) (.slice a3' m3.length d3) (.slice a5' b.bs.length d5) m1 m3 b.bs) := ownl_set HL1.out (by omega)
  refine wpAnyH_ready (rs := [6]) (by kernel_rfl) (by simp) ?_
  refine AllReadyH.cons rfl (fun K hK => ?_) AllReadyH.nil
  refine wp_store_mid 50 (.tmp 5) (.tmp 32) rfl (w.heap.size + 1 + 1 + 1) 0 #[.int .i64 (r : Nat), .string s] rfl rfl hthT rfl (all_oneCell_toArray (tlC_one _ _)) ?_
  refine hK.out _ _ (HP.out _ _ _ HR2.out) (fun hHeld2 => ?_)
  clear hK K hHeld
  have hHeld := hHeld2
  clear hHeld2
  try simp only [Act.put, List.getElem_toArray, List.getElem_cons_succ, List.getElem_cons_zero]
  refine wpAnyH_done (by kernel_rfl) ?_ _
  go_wp2
  exact bodyPost_bxbx rfl (w.heap.size + 1 + 1) (w.heap.size + 1 + 1 + 1) [.slice a1 m1.length d1, .slice a3' m3.length d3, .slice a5' b.bs.length d5, .int .u64 (b.fe : Nat)] [.int .i64 (r : Nat), .string s] _ _ rfl rfl rfl HR2.out.r HR2.out.t Tryz.underlying27 rfl rfl Tryz.underlying50 rfl rfl (Gave.mk m1 m3 HE1.out HE3.out (HL2.out.le (by omega)) HR2.out.b)
end Bo
end Go.Proofs.YthbmnkeigmbbdaaGreat

/-
  book.Do: WHATEVER THE BOOK, WHATEVER THE ORDER.
-/
namespace Go.Proofs.YthbmnkeigmbbdaaGreat
open Go.RowKit Go.Lib
namespace Bo
open Rw
set_option linter.unusedVariables false
theorem coB_kind {C : Hd.Cd} (h : Hd.coB C = true) : 1 ≤ C.k ∧ C.k ≤ 7 := by
  unfold Hd.coB at h
  by_cases e1 : C.k = 1
  · omega
  rw [if_neg e1] at h
  by_cases e3 : C.k = 3
  · omega
  rw [if_neg e3] at h
  by_cases e5 : C.k = 5
  · omega
  rw [if_neg e5] at h
  by_cases e : C.k = 2 ∨ C.k = 4 ∨ C.k = 6 ∨ C.k = 7
  · omega
  · rw [if_neg e] at h; cases h
theorem do_any (b : Bk) (vn vt vb : Value) (C : Hd.Cd) (a2 a3 a4 a5 : Option Addr) (c2 c3 c4 c5 : Nat) (w : World) (hB : Books w w.heap.size vn vt vb b) (hdn : DeepN w w.heap.size ⟨C.nd, a2, c2, a3, c3⟩) (hfn : FitN C.nd) (hdt : DeepT w w.heap.size ⟨C.td, a4, c4, a5, c5⟩) (hft : FitT C.td) :
    Calls Tryz.prog 21 #[.agg #[vn, vt, vb, .int .u64 (b.fe : Nat)], .agg #[.int .u8 (C.k : Nat), .string C.nd.n, .int .i64 C.nd.z0, .int .i64 C.nd.z1, .int .i64 C.nd.z2, .slice a2 C.nd.ls.length c2, .slice a3 C.nd.ts.length c3, .string C.td.n, .int .i64 C.td.z0, .int .i64 C.td.z1, .int .i64 C.td.z2, .slice a4 C.td.ws.length c4, .slice a5 C.td.bs.length c5, .string C.td.g, .string C.td.a, .int .i64 C.td.r, .string C.na, .string C.on, .int .u64 (C.fe : Nat)]] w (Gave (doF b C).1 (doF b C).2.1 (doF b C).2.2 w) := by
  unfold doF
  cases hc : chkB b
  · rw [if_neg (by decide)]
    exact do_no b vn vt vb C a2 a3 a4 a5 c2 c3 c4 c5 w hB hc
  · rw [if_pos rfl]
    unfold doV
    cases ho : Hd.coB C
    · rw [if_neg (by decide)]
      exact do_form b vn vt vb C a2 a3 a4 a5 c2 c3 c4 c5 w hB hc ho
    · rw [if_pos rfl]
      have hk := coB_kind ho
      by_cases h7 : C.k = 7
      · rw [if_pos h7]
        exact do_look b vn vt vb C a2 a3 a4 a5 c2 c3 c4 c5 w hB _ _ hc ho h7 rfl
      · rw [if_neg h7]
        exact do_change b vn vt vb C a2 a3 a4 a5 c2 c3 c4 c5 w hB _ _ hdn hfn hdt hft hc ho (by omega) rfl
end Bo
end Go.Proofs.YthbmnkeigmbbdaaGreat
