/-
  Merged: BdFind, BdThere, BdNode.
-/
import Derived.Test.YthbmnkeigmbbdaaGreatBgP
import Derived.Test.YthbmnkeigmbbdaaGreatBoSame
import Derived.Deep.LoopGhost
import Derived.Test.YthbmnkeigmbbdaaGreatBgU
import Derived.Test.YthbmnkeigmbbdaaGreatRigSumR
import Derived.Deep.RegionWith
import Derived.Deep.RegionHeld3
import Derived.Test.YthbmnkeigmbbdaaGreatBoLives
/-
  WHO STANDS WHERE, by the document: gafferref08.Node, Task, On.
-/
namespace Go.Proofs.YthbmnkeigmbbdaaGreat
open Go.RowKit Go.Lib
namespace Bo
open Rw
set_option linter.unusedVariables false
/-- The first place of a key, or how many there are. -/
def fiK : List ByteArray → ByteArray → Nat
  | [], _ => 0
  | k :: r, x => if k = x then 0 else fiK r x + 1
theorem fi_hit : ∀ (ks : List ByteArray) (x : ByteArray) (k : Nat) (h : k < ks.length), k ≤ fiK ks x → ks[k] = x → fiK ks x = k
  | [], _, _, h, _, _ => by simp at h
  | a :: r, x, 0, _, _, he => by
    unfold fiK
    exact if_pos he
  | a :: r, x, k + 1, h, hk, he => by
    unfold fiK at hk ⊢
    split at hk
    · omega
    · rename_i hn
      rw [if_neg hn, fi_hit r x k (by simpa using h) (by omega) (by simpa using he)]
theorem fi_miss : ∀ (ks : List ByteArray) (x : ByteArray) (k : Nat) (h : k < ks.length), k ≤ fiK ks x → ¬ ks[k] = x → k + 1 ≤ fiK ks x
  | [], _, _, h, _, _ => by simp at h
  | a :: r, x, 0, _, _, he => by
    unfold fiK
    rw [if_neg (show ¬ a = x from he)]
    omega
  | a :: r, x, k + 1, h, hk, he => by
    unfold fiK at hk ⊢
    split at hk
    · omega
    · rename_i hn
      have := fi_miss r x k (by simpa using h) (by omega) (by simpa using he)
      rw [if_neg hn]
      omega
theorem fi_has : ∀ (ks : List ByteArray) (x : ByteArray), hasK ks x = true ↔ fiK ks x < ks.length
  | [], x => by simp [hasK, fiK]
  | a :: r, x => by
    have ih := fi_has r x
    unfold hasK at ih ⊢
    unfold fiK
    by_cases h : a = x
    · rw [if_pos h]; simp [h]
    · rw [if_neg h]
      simp only [List.any_cons, List.length_cons, decide_eq_false h, Bool.false_or]
      rw [ih]
      omega
theorem fi_get {ks : List ByteArray} {x : ByteArray} : ∀ (h : fiK ks x < ks.length), ks[fiK ks x] = x := by
  induction ks with
  | nil => intro h; simp at h
  | cons a r ih =>
    intro h
    by_cases he : a = x
    · have h0 : fiK (a :: r) x = 0 := by unfold fiK; exact if_pos he
      simp only [h0, List.getElem_cons_zero]
      exact he
    · have h1 : fiK (a :: r) x = fiK r x + 1 := by conv => lhs; unfold fiK
                                                   exact if_neg he
      simp only [h1, List.getElem_cons_succ]
      exact ih (by rw [h1, List.length_cons] at h; omega)
def ixK (ks : List ByteArray) (x : ByteArray) : Int := if hasK ks x = true then (fiK ks x : Nat) else -1
theorem ix_hit {ks : List ByteArray} {x : ByteArray} {k : Nat} (h : k < ks.length) (hk : k ≤ fiK ks x) (he : ks[k] = x) : ixK ks x = (k : Nat) := by
  have h1 := fi_hit ks x k h hk he
  unfold ixK
  rw [if_pos ((fi_has ks x).2 (by omega)), h1]
theorem ix_no {ks : List ByteArray} {x : ByteArray} (hk : ks.length ≤ fiK ks x) : ixK ks x = -1 := by
  unfold ixK
  rw [if_neg (by rw [fi_has]; omega)]
/-- The node that a task is on, empty: none. -/
def onF (bs : List Rg.Pr) (t : ByteArray) : ByteArray := match bs[fiK (bs.map (·.k)) t]? with | some o => o.v | none => ⟨#[]⟩
theorem on_hit {bs : List Rg.Pr} {t : ByteArray} {k : Nat} (h : k < bs.length) (hk : k ≤ fiK (bs.map (·.k)) t) (he : bs[k].k = t) : onF bs t = bs[k].v := by
  have h1 := fi_hit (bs.map (·.k)) t k (by simpa using h) hk (by simpa using he)
  unfold onF
  rw [h1, List.getElem?_eq_getElem h]
theorem on_no {bs : List Rg.Pr} {t : ByteArray} (hk : bs.length ≤ fiK (bs.map (·.k)) t) : onF bs t = ⟨#[]⟩ := by
  unfold onF
  rw [List.getElem?_eq_none hk]
set_option maxRecDepth 100000 in
set_option maxHeartbeats 4000000 in
theorem Node_ix (b : Bk) (vn vt vb : Value) (v : ByteArray) (w : World) (hB : Books w w.heap.size vn vt vb b) :
    Calls Tryz.prog 84 #[.agg #[vn, vt, vb, .int .u64 (b.fe : Nat)], .string v] w fun e w' => e = .returned (.int .i64 (ixK (b.ns.map (·.n)) v)) ∧ Below w.heap.size w w' := by
  have hln : b.ns.length ≤ 4398046511104 := by obtain ⟨m, hm, -, -, hl⟩ := hB.hn; omega
  obtain ⟨an, cn, rfl, hN⟩ := hB.hn.row
  obtain ⟨at', ct, rfl, hT⟩ := hB.ht.row
  obtain ⟨ab, cb, rfl, hBd⟩ := hB.hb.row
  obtain ⟨W0, hW0⟩ : ∃ W0, W0 = w.alloc (.cells #[.slice an b.ns.length cn, .slice at' b.ts.length ct, .slice ab b.bs.length cb, .int .u64 (b.fe : Nat)] 27) := ⟨_, rfl⟩
  have HB0 : Hid (Below w.heap.size w W0) := by rw [hW0]; exact al w _
  have HX0 : Hid (Hd.Bxn W0 w.heap.size [.slice an b.ns.length cn, .slice at' b.ts.length ct, .slice ab b.bs.length cb, .int .u64 (b.fe : Nat)]) := by rw [hW0]; exact Hd.Bxn.made w _ _
  have HW := Lib.hid hW0
  have HR := Lib.hid hN
  obtain ⟨ks, hks⟩ : ∃ ks, ks = b.ns.map (·.n) := ⟨_, rfl⟩
  have hkl : ks.length = b.ns.length := by rw [hks, List.length_map]
  have HKX : Hid (∀ k (h : k < b.ns.length) (h2 : k < ks.length), ks[k] = b.ns[k].n) := fun k h h2 => by subst hks; simp
  have HKL := Lib.hid hkl
  obtain ⟨rs, hrs⟩ : ∃ rs, rs = ixK ks v := ⟨_, rfl⟩
  rw [← hks, ← hrs]
  have HNO : Hid (b.ns.length ≤ fiK ks v → rs = -1) := fun h => by rw [hrs]; exact ix_no (by rw [hkl]; exact h)
  have HYES : Hid (∀ k (h : k < b.ns.length), k ≤ fiK ks v → b.ns[k].n = v → rs = (k : Nat)) := fun k h h1 h2 => by rw [hrs]; exact ix_hit (by omega) h1 ((HKX.out k h (by omega)).trans h2)
  clear hks hrs
  clear hW0 hN hT hBd hB hkl
  go_enter Tryz.func84, Tryz.ntmps84
  go_upto_region 1 with fail
  rw [← HW.out]
  clear HW
  have k1 : W0.cell? ⟨w.heap.size, 0, none⟩ = some (.slice an b.ns.length cn) := HX0.out.cell 0
  go_wp2
  clear k1 HX0
  go_loopg [10] b.ns.length (fun gg i wx => ∃ k : Nat, k + gg = b.ns.length ∧ i = .int .i64 k ∧ Aside (k ≤ fiK ks v) ∧ Aside (Below w.heap.size w wx))
  case atStart => exact ⟨0, by omega, rfl, Nat.zero_le _, HB0.out⟩
  case round =>
    obtain ⟨k, hkg, rfl, HF, HA⟩ := hrel
    have HBr : Hid (Below w.heap.size w wr) := HA.out
    have HFr : Hid (k ≤ fiK ks v) := HF.out
    clear HA HF HB0
    cases gk with
    | zero =>
      obtain rfl : k = b.ns.length := by omega
      have HE := Lib.hid (HNO.out HFr.out)
      clear hkg HNO HYES
      go_wp2
      go_ret
      exact ⟨by rw [HE.out]; rfl, HBr.out⟩
    | succ gg =>
      have hlk : k < b.ns.length := by omega
      have t2 : (k : Int) < (b.ns.length : Int) := by omega
      have t3 : IntKind.i64.wrap ((k : Int) + 1) = (k : Int) + 1 := by rw [IntKind.wrap_i64]; omega
      have t4 : (0 : Int) ≤ (k : Int) := by omega
      obtain ⟨g, o, rfl, hgl, hrr⟩ := HR.out (by omega)
      obtain ⟨x, hx, hax, -, -⟩ := hrr k hlk
      have HXE : Hid (x.nd = b.ns[k]) := hx
      clear hx
      have hrow : wr.rangeAt g (o + k * 6) [.string x.nd.n, .int .i64 x.nd.z0, .int .i64 x.nd.z1, .int .i64 x.nd.z2, .slice x.a2 x.nd.ls.length x.c2, .slice x.a3 x.nd.ts.length x.c3] := fun j u hj => (hax.keep HBr.out hgl) j u hj
      clear hrr hax
      go_upto_region 3 with fail
      refine wp_region_list ?_
      refine wpList_plain rfl fun K hK => ?_
      go_simp
      refine hK _ _ ?_
      clear hK K
      refine wpList_plain rfl fun K hK => ?_
      go_simp
      refine hK _ _ ?_
      clear hK K
      refine wpList_load_mid rfl 45 (.tmp 13) rfl (g) (o + k * 6) rfl [.string x.nd.n, .int .i64 x.nd.z0, .int .i64 x.nd.z1, .int .i64 x.nd.z2, .slice x.a2 x.nd.ls.length x.c2, .slice x.a3 x.nd.ts.length x.c3] _ (hrow) Tryz.underlying45 rfl rfl ?_
      refine wpList_plain rfl fun K hK => ?_
      go_simp
      refine hK _ _ ?_
      clear hK K
      refine wpList_plain rfl fun K hK => ?_
      go_simp
      refine hK _ _ ?_
      clear hK K
      obtain ⟨th1, hbz, hx1⟩ := one_made wr [.string ⟨#[]⟩, .int .i64 0, .int .i64 0, .int .i64 0, .slice none 0 0, .slice none 0 0] [.string x.nd.n, .int .i64 x.nd.z0, .int .i64 x.nd.z1, .int .i64 x.nd.z2, .slice x.a2 x.nd.ls.length x.c2, .slice x.a3 x.nd.ts.length x.c3] 45 rfl
      refine wpList_store_mid rfl 45 (.tmp 6) (.tmp 14) rfl (wr.heap.size) 0 #[.string x.nd.n, .int .i64 x.nd.z0, .int .i64 x.nd.z1, .int .i64 x.nd.z2, .slice x.a2 x.nd.ls.length x.c2, .slice x.a3 x.nd.ts.length x.c3] rfl rfl th1 rfl (all_oneCell_toArray (List.all_eq_true.1 (show List.all ([.string x.nd.n, .int .i64 x.nd.z0, .int .i64 x.nd.z1, .int .i64 x.nd.z2, .slice x.a2 x.nd.ls.length x.c2, .slice x.a3 x.nd.ts.length x.c3] : List Value) (fun v => v.oneCell') = true from rfl))) ?_
      rw [show (#[.string x.nd.n, .int .i64 x.nd.z0, .int .i64 x.nd.z1, .int .i64 x.nd.z2, .slice x.a2 x.nd.ls.length x.c2, .slice x.a3 x.nd.ts.length x.c3] : Array Value).toList = [.string x.nd.n, .int .i64 x.nd.z0, .int .i64 x.nd.z1, .int .i64 x.nd.z2, .slice x.a2 x.nd.ls.length x.c2, .slice x.a3 x.nd.ts.length x.c3] from rfl]
      clear th1 hrow
      generalize (wr.alloc (.cells #[.string ⟨#[]⟩, .int .i64 0, .int .i64 0, .int .i64 0, .slice none 0 0, .slice none 0 0] 45)).setCells wr.heap.size 0 [.string x.nd.n, .int .i64 x.nd.z0, .int .i64 x.nd.z1, .int .i64 x.nd.z2, .slice x.a2 x.nd.ls.length x.c2, .slice x.a3 x.nd.ts.length x.c3] = y0 at *
      have HBy : Hid (Below w.heap.size w y0) := HBr.out.trans (hbz.mono HBr.out.size)
      have n0 : y0.cell? ⟨wr.heap.size, 0, none⟩ = some (.string x.nd.n) := hx1.cell 0
      clear hbz hx1 HBr
      refine wpList_nil ?_
      have hke : x.nd.n = b.ns[k].n := by rw [HXE.out]
      by_cases hv : x.nd.n = v
      · have HV : Hid (b.ns[k].n = v) := hke.symm.trans hv
        have g0 : (x.nd.n.toList == v.toList) = true := by rw [hv]; simp
        have HE := Lib.hid (HYES.out k hlk HFr.out HV.out)
        clear hv hke HYES HNO HFr
        go_wp2
        go_ret
        exact ⟨by rw [HE.out]; rfl, HBy.out⟩
      · have HV : Hid (¬ b.ns[k].n = v) := fun e => hv (hke.trans e)
        obtain ⟨g0, g1⟩ := Hd.ba_no hv
        clear hv hke
        go_wp2
        go_roundg gg
        case measure => omega
        case rel => exact ⟨k + 1, by omega, by simp, fi_miss ks v k (by have := HKL.out; omega) HFr.out (by rw [HKX.out k hlk (by have := HKL.out; omega)]; exact HV.out), HBy.out⟩
set_option maxRecDepth 100000 in
set_option maxHeartbeats 4000000 in
theorem Task_ix (b : Bk) (vn vt vb : Value) (v : ByteArray) (w : World) (hB : Books w w.heap.size vn vt vb b) :
    Calls Tryz.prog 48 #[.agg #[vn, vt, vb, .int .u64 (b.fe : Nat)], .string v] w fun e w' => e = .returned (.int .i64 (ixK (b.ts.map (·.n)) v)) ∧ Below w.heap.size w w' := by
  have hln : b.ts.length ≤ 4398046511104 := by obtain ⟨m, hm, -, -, hl⟩ := hB.ht; omega
  obtain ⟨an, cn, rfl, hN⟩ := hB.hn.row
  obtain ⟨at', ct, rfl, hT⟩ := hB.ht.row
  obtain ⟨ab, cb, rfl, hBd⟩ := hB.hb.row
  obtain ⟨W0, hW0⟩ : ∃ W0, W0 = w.alloc (.cells #[.slice an b.ns.length cn, .slice at' b.ts.length ct, .slice ab b.bs.length cb, .int .u64 (b.fe : Nat)] 27) := ⟨_, rfl⟩
  have HB0 : Hid (Below w.heap.size w W0) := by rw [hW0]; exact al w _
  have HX0 : Hid (Hd.Bxn W0 w.heap.size [.slice an b.ns.length cn, .slice at' b.ts.length ct, .slice ab b.bs.length cb, .int .u64 (b.fe : Nat)]) := by rw [hW0]; exact Hd.Bxn.made w _ _
  have HW := Lib.hid hW0
  have HR := Lib.hid hT
  obtain ⟨ks, hks⟩ : ∃ ks, ks = b.ts.map (·.n) := ⟨_, rfl⟩
  have hkl : ks.length = b.ts.length := by rw [hks, List.length_map]
  have HKX : Hid (∀ k (h : k < b.ts.length) (h2 : k < ks.length), ks[k] = b.ts[k].n) := fun k h h2 => by subst hks; simp
  have HKL := Lib.hid hkl
  obtain ⟨rs, hrs⟩ : ∃ rs, rs = ixK ks v := ⟨_, rfl⟩
  rw [← hks, ← hrs]
  have HNO : Hid (b.ts.length ≤ fiK ks v → rs = -1) := fun h => by rw [hrs]; exact ix_no (by rw [hkl]; exact h)
  have HYES : Hid (∀ k (h : k < b.ts.length), k ≤ fiK ks v → b.ts[k].n = v → rs = (k : Nat)) := fun k h h1 h2 => by rw [hrs]; exact ix_hit (by omega) h1 ((HKX.out k h (by omega)).trans h2)
  clear hks hrs
  clear hW0 hN hT hBd hB hkl
  go_enter Tryz.func48, Tryz.ntmps48
  go_upto_region 1 with fail
  rw [← HW.out]
  clear HW
  have k1 : W0.cell? ⟨w.heap.size, 1, none⟩ = some (.slice at' b.ts.length ct) := HX0.out.cell 1
  go_wp2
  clear k1 HX0
  go_loopg [10] b.ts.length (fun gg i wx => ∃ k : Nat, k + gg = b.ts.length ∧ i = .int .i64 k ∧ Aside (k ≤ fiK ks v) ∧ Aside (Below w.heap.size w wx))
  case atStart => exact ⟨0, by omega, rfl, Nat.zero_le _, HB0.out⟩
  case round =>
    obtain ⟨k, hkg, rfl, HF, HA⟩ := hrel
    have HBr : Hid (Below w.heap.size w wr) := HA.out
    have HFr : Hid (k ≤ fiK ks v) := HF.out
    clear HA HF HB0
    cases gk with
    | zero =>
      obtain rfl : k = b.ts.length := by omega
      have HE := Lib.hid (HNO.out HFr.out)
      clear hkg HNO HYES
      go_wp2
      go_ret
      exact ⟨by rw [HE.out]; rfl, HBr.out⟩
    | succ gg =>
      have hlk : k < b.ts.length := by omega
      have t2 : (k : Int) < (b.ts.length : Int) := by omega
      have t3 : IntKind.i64.wrap ((k : Int) + 1) = (k : Int) + 1 := by rw [IntKind.wrap_i64]; omega
      have t4 : (0 : Int) ≤ (k : Int) := by omega
      obtain ⟨g, o, rfl, hgl, hrr⟩ := HR.out (by omega)
      obtain ⟨x, hx, hax, -, -⟩ := hrr k hlk
      have HXE : Hid (x.td = b.ts[k]) := hx
      clear hx
      have hrow : wr.rangeAt g (o + k * 9) [.string x.td.n, .int .i64 x.td.z0, .int .i64 x.td.z1, .int .i64 x.td.z2, .slice x.a4 x.td.ws.length x.c4, .slice x.a5 x.td.bs.length x.c5, .string x.td.g, .string x.td.a, .int .i64 x.td.r] := fun j u hj => (hax.keep HBr.out hgl) j u hj
      clear hrr hax
      go_upto_region 3 with fail
      refine wp_region_list ?_
      refine wpList_plain rfl fun K hK => ?_
      go_simp
      refine hK _ _ ?_
      clear hK K
      refine wpList_plain rfl fun K hK => ?_
      go_simp
      refine hK _ _ ?_
      clear hK K
      refine wpList_load_mid rfl 42 (.tmp 13) rfl (g) (o + k * 9) rfl [.string x.td.n, .int .i64 x.td.z0, .int .i64 x.td.z1, .int .i64 x.td.z2, .slice x.a4 x.td.ws.length x.c4, .slice x.a5 x.td.bs.length x.c5, .string x.td.g, .string x.td.a, .int .i64 x.td.r] _ (hrow) Tryz.underlying42 rfl rfl ?_
      refine wpList_plain rfl fun K hK => ?_
      go_simp
      refine hK _ _ ?_
      clear hK K
      refine wpList_plain rfl fun K hK => ?_
      go_simp
      refine hK _ _ ?_
      clear hK K
      obtain ⟨th1, hbz, hx1⟩ := one_made wr [.string ⟨#[]⟩, .int .i64 0, .int .i64 0, .int .i64 0, .slice none 0 0, .slice none 0 0, .string ⟨#[]⟩, .string ⟨#[]⟩, .int .i64 0] [.string x.td.n, .int .i64 x.td.z0, .int .i64 x.td.z1, .int .i64 x.td.z2, .slice x.a4 x.td.ws.length x.c4, .slice x.a5 x.td.bs.length x.c5, .string x.td.g, .string x.td.a, .int .i64 x.td.r] 42 rfl
      refine wpList_store_mid rfl 42 (.tmp 6) (.tmp 14) rfl (wr.heap.size) 0 #[.string x.td.n, .int .i64 x.td.z0, .int .i64 x.td.z1, .int .i64 x.td.z2, .slice x.a4 x.td.ws.length x.c4, .slice x.a5 x.td.bs.length x.c5, .string x.td.g, .string x.td.a, .int .i64 x.td.r] rfl rfl th1 rfl (all_oneCell_toArray (List.all_eq_true.1 (show List.all ([.string x.td.n, .int .i64 x.td.z0, .int .i64 x.td.z1, .int .i64 x.td.z2, .slice x.a4 x.td.ws.length x.c4, .slice x.a5 x.td.bs.length x.c5, .string x.td.g, .string x.td.a, .int .i64 x.td.r] : List Value) (fun v => v.oneCell') = true from rfl))) ?_
      rw [show (#[.string x.td.n, .int .i64 x.td.z0, .int .i64 x.td.z1, .int .i64 x.td.z2, .slice x.a4 x.td.ws.length x.c4, .slice x.a5 x.td.bs.length x.c5, .string x.td.g, .string x.td.a, .int .i64 x.td.r] : Array Value).toList = [.string x.td.n, .int .i64 x.td.z0, .int .i64 x.td.z1, .int .i64 x.td.z2, .slice x.a4 x.td.ws.length x.c4, .slice x.a5 x.td.bs.length x.c5, .string x.td.g, .string x.td.a, .int .i64 x.td.r] from rfl]
      clear th1 hrow
      generalize (wr.alloc (.cells #[.string ⟨#[]⟩, .int .i64 0, .int .i64 0, .int .i64 0, .slice none 0 0, .slice none 0 0, .string ⟨#[]⟩, .string ⟨#[]⟩, .int .i64 0] 42)).setCells wr.heap.size 0 [.string x.td.n, .int .i64 x.td.z0, .int .i64 x.td.z1, .int .i64 x.td.z2, .slice x.a4 x.td.ws.length x.c4, .slice x.a5 x.td.bs.length x.c5, .string x.td.g, .string x.td.a, .int .i64 x.td.r] = y0 at *
      have HBy : Hid (Below w.heap.size w y0) := HBr.out.trans (hbz.mono HBr.out.size)
      have n0 : y0.cell? ⟨wr.heap.size, 0, none⟩ = some (.string x.td.n) := hx1.cell 0
      clear hbz hx1 HBr
      refine wpList_nil ?_
      have hke : x.td.n = b.ts[k].n := by rw [HXE.out]
      by_cases hv : x.td.n = v
      · have HV : Hid (b.ts[k].n = v) := hke.symm.trans hv
        have g0 : (x.td.n.toList == v.toList) = true := by rw [hv]; simp
        have HE := Lib.hid (HYES.out k hlk HFr.out HV.out)
        clear hv hke HYES HNO HFr
        go_wp2
        go_ret
        exact ⟨by rw [HE.out]; rfl, HBy.out⟩
      · have HV : Hid (¬ b.ts[k].n = v) := fun e => hv (hke.trans e)
        obtain ⟨g0, g1⟩ := Hd.ba_no hv
        clear hv hke
        go_wp2
        go_roundg gg
        case measure => omega
        case rel => exact ⟨k + 1, by omega, by simp, fi_miss ks v k (by have := HKL.out; omega) HFr.out (by rw [HKX.out k hlk (by have := HKL.out; omega)]; exact HV.out), HBy.out⟩
set_option maxRecDepth 100000 in
set_option maxHeartbeats 4000000 in
theorem On_ix (b : Bk) (vn vt vb : Value) (v : ByteArray) (w : World) (hB : Books w w.heap.size vn vt vb b) :
    Calls Tryz.prog 40 #[.agg #[vn, vt, vb, .int .u64 (b.fe : Nat)], .string v] w fun e w' => e = .returned (.string (onF b.bs v)) ∧ Below w.heap.size w w' := by
  have hln : b.bs.length ≤ 4398046511104 := by have hl := hB.hb.2.2; omega
  obtain ⟨an, cn, rfl, hN⟩ := hB.hn.row
  obtain ⟨at', ct, rfl, hT⟩ := hB.ht.row
  obtain ⟨ab, cb, rfl, hBd⟩ := hB.hb.row
  obtain ⟨W0, hW0⟩ : ∃ W0, W0 = w.alloc (.cells #[.slice an b.ns.length cn, .slice at' b.ts.length ct, .slice ab b.bs.length cb, .int .u64 (b.fe : Nat)] 27) := ⟨_, rfl⟩
  have HB0 : Hid (Below w.heap.size w W0) := by rw [hW0]; exact al w _
  have HX0 : Hid (Hd.Bxn W0 w.heap.size [.slice an b.ns.length cn, .slice at' b.ts.length ct, .slice ab b.bs.length cb, .int .u64 (b.fe : Nat)]) := by rw [hW0]; exact Hd.Bxn.made w _ _
  have HW := Lib.hid hW0
  have HR := Lib.hid hBd
  obtain ⟨ks, hks⟩ : ∃ ks, ks = b.bs.map (·.k) := ⟨_, rfl⟩
  have hkl : ks.length = b.bs.length := by rw [hks, List.length_map]
  have HKX : Hid (∀ k (h : k < b.bs.length) (h2 : k < ks.length), ks[k] = b.bs[k].k) := fun k h h2 => by subst hks; simp
  have HKL := Lib.hid hkl
  obtain ⟨rs, hrs⟩ : ∃ rs, rs = onF b.bs v := ⟨_, rfl⟩
  rw [← hrs]
  have HNO : Hid (b.bs.length ≤ fiK ks v → rs = ⟨#[]⟩) := fun h => by rw [hrs]; exact on_no (by rw [← hks]; exact h)
  have HYES : Hid (∀ k (h : k < b.bs.length), k ≤ fiK ks v → b.bs[k].k = v → rs = b.bs[k].v) := fun k h h1 h2 => by rw [hrs]; exact on_hit h (by rw [← hks]; exact h1) h2
  clear hks hrs
  clear hW0 hN hT hBd hB hkl
  go_enter Tryz.func40, Tryz.ntmps40
  go_upto_region 1 with fail
  rw [← HW.out]
  clear HW
  have k1 : W0.cell? ⟨w.heap.size, 2, none⟩ = some (.slice ab b.bs.length cb) := HX0.out.cell 2
  go_wp2
  clear k1 HX0
  go_loopg [10] b.bs.length (fun gg i wx => ∃ k : Nat, k + gg = b.bs.length ∧ i = .int .i64 k ∧ Aside (k ≤ fiK ks v) ∧ Aside (Below w.heap.size w wx))
  case atStart => exact ⟨0, by omega, rfl, Nat.zero_le _, HB0.out⟩
  case round =>
    obtain ⟨k, hkg, rfl, HF, HA⟩ := hrel
    have HBr : Hid (Below w.heap.size w wr) := HA.out
    have HFr : Hid (k ≤ fiK ks v) := HF.out
    clear HA HF HB0
    cases gk with
    | zero =>
      obtain rfl : k = b.bs.length := by omega
      have HE := Lib.hid (HNO.out HFr.out)
      clear hkg HNO HYES
      go_wp2
      go_ret
      exact ⟨by rw [HE.out]; rfl, HBr.out⟩
    | succ gg =>
      have hlk : k < b.bs.length := by omega
      have t2 : (k : Int) < (b.bs.length : Int) := by omega
      have t3 : IntKind.i64.wrap ((k : Int) + 1) = (k : Int) + 1 := by rw [IntKind.wrap_i64]; omega
      have t4 : (0 : Int) ≤ (k : Int) := by omega
      obtain ⟨g, o, rfl, hgl, hrr⟩ := HR.out (by omega)
      have hax := hrr k hlk
      obtain ⟨x, hx⟩ : ∃ x, x = b.bs[k] := ⟨_, rfl⟩
      rw [← hx] at hax
      have HXE : Hid (x = b.bs[k]) := hx
      clear hx
      have hrow : wr.rangeAt g (o + k * 2) [.string x.k, .string x.v] := fun j u hj => (hax.keep HBr.out hgl) j u hj
      clear hrr hax
      go_upto_region 3 with fail
      refine wp_region_list ?_
      refine wpList_plain rfl fun K hK => ?_
      go_simp
      refine hK _ _ ?_
      clear hK K
      refine wpList_load_mid rfl 106 (.tmp 12) rfl (g) (o + k * 2) rfl [.string x.k, .string x.v] _ (hrow) Tryz.underlying106 rfl rfl ?_
      refine wpList_plain rfl fun K hK => ?_
      go_simp
      refine hK _ _ ?_
      clear hK K
      obtain ⟨th1, hbz, hx1⟩ := one_made wr [.string ⟨#[]⟩, .string ⟨#[]⟩] [.string x.k, .string x.v] 106 rfl
      refine wpList_store_mid rfl 106 (.tmp 6) (.tmp 13) rfl (wr.heap.size) 0 #[.string x.k, .string x.v] rfl rfl th1 rfl (all_oneCell_toArray (List.all_eq_true.1 (show List.all ([.string x.k, .string x.v] : List Value) (fun v => v.oneCell') = true from rfl))) ?_
      rw [show (#[.string x.k, .string x.v] : Array Value).toList = [.string x.k, .string x.v] from rfl]
      clear th1 hrow
      generalize (wr.alloc (.cells #[.string ⟨#[]⟩, .string ⟨#[]⟩] 106)).setCells wr.heap.size 0 [.string x.k, .string x.v] = y0 at *
      have HBy : Hid (Below w.heap.size w y0) := HBr.out.trans (hbz.mono HBr.out.size)
      have n0 : y0.cell? ⟨wr.heap.size, 0, none⟩ = some (.string x.k) := hx1.cell 0
      have n1 : y0.cell? ⟨wr.heap.size, 1, none⟩ = some (.string x.v) := hx1.cell 1
      clear hbz hx1 HBr
      refine wpList_nil ?_
      have hke : x.k = b.bs[k].k := by rw [HXE.out]
      by_cases hv : x.k = v
      · have HV : Hid (b.bs[k].k = v) := hke.symm.trans hv
        have g0 : (x.k.toList == v.toList) = true := by rw [hv]; simp
        have HE := Lib.hid (HYES.out k hlk HFr.out HV.out)
        clear hv hke HYES HNO HFr
        go_wp2
        go_ret
        exact ⟨by rw [HE.out, HXE.out]; rfl, HBy.out⟩
      · have HV : Hid (¬ b.bs[k].k = v) := fun e => hv (hke.trans e)
        obtain ⟨g0, g1⟩ := Hd.ba_no hv
        clear hv hke
        go_wp2
        go_roundg gg
        case measure => omega
        case rel => exact ⟨k + 1, by omega, by simp, fi_miss ks v k (by have := HKL.out; omega) HFr.out (by rw [HKX.out k hlk (by have := HKL.out; omega)]; exact HV.out), HBy.out⟩
end Bo
end Go.Proofs.YthbmnkeigmbbdaaGreat

/-
  THE TASKS OF A NODE, by the document: gafferref08.there, used.
-/
namespace Go.Proofs.YthbmnkeigmbbdaaGreat
open Go.RowKit Go.Lib
namespace Bo
open Rw
set_option linter.unusedVariables false
/-- The tasks of a node, by the document: a row of its own. -/
def ThrIs (b : Bk) (v : ByteArray) (w : World) (e : Ending) (w' : World) : Prop := ∃ v' lm, e = .returned v' ∧ Own w' w.heap.size 42 v' lm ∧ lm.map (·.td) = thr b.ts b.bs v ∧ (∀ x ∈ lm, DeepT w w.heap.size x ∧ FitT x.td) ∧ Below w.heap.size w w'
theorem bxn_grown {z z' : World} {B : Nat} {cs : List Value} {own : Option Nat} (h : Hd.Bxn z B cs) (hg : z.grownBy z' own) (hn : own ≠ some B) : Hd.Bxn z' B cs := by
  have hl := h.lt
  obtain ⟨T, h⟩ := h
  exact ⟨T, (hg.block B hl (fun e => hn e.symm)).trans h⟩
theorem tOf_fi {l : List Hd.Td} (hr : Ris (l.map (·.n))) {k : ByteArray} (h : fiK (l.map (·.n)) k < l.length) : tOf l k = l[fiK (l.map (·.n)) k] := by
  have h1 := fi_get (ks := l.map (·.n)) (x := k) (by rw [List.length_map]; exact h)
  rw [List.getElem_map] at h1
  have h2 := tOf_at hr (List.getElem_mem h)
  rw [h1] at h2
  exact h2
set_option maxRecDepth 100000 in
set_option maxHeartbeats 4000000 in
theorem there_ref (b : Bk) (vn vt vb : Value) (v : ByteArray) (w : World) (hB : Books w w.heap.size vn vt vb b) (hL : Lists b) :
    Calls Tryz.prog 152 #[.agg #[vn, vt, vb, .int .u64 (b.fe : Nat)], .string v] w (ThrIs b v w) := by
  have hln : b.bs.length ≤ 4398046511104 := by have hl := hB.hb.2.2; omega
  have HTK : Hid (∀ k z, Below w.heap.size w z → Calls Tryz.prog 48 #[.agg #[vn, vt, vb, .int .u64 (b.fe : Nat)], .string k] z fun e w' => e = .returned (.int .i64 (ixK (b.ts.map (·.n)) k)) ∧ Below z.heap.size z w') := fun k z hz => Task_ix b vn vt vb k z (hB.on hz)
  obtain ⟨an, cn, rfl, -⟩ := hB.hn.row
  obtain ⟨at', ct, rfl, hT⟩ := hB.ht.row
  obtain ⟨ab, cb, rfl, hBd⟩ := hB.hb.row
  obtain ⟨W0, hW0⟩ : ∃ W0, W0 = w.alloc (.cells #[.slice an b.ns.length cn, .slice at' b.ts.length ct, .slice ab b.bs.length cb, .int .u64 (b.fe : Nat)] 27) := ⟨_, rfl⟩
  have HB0 : Hid (Below w.heap.size w W0) := by rw [hW0]; exact al w _
  have HX0 : Hid (Hd.Bxn W0 w.heap.size [.slice an b.ns.length cn, .slice at' b.ts.length ct, .slice ab b.bs.length cb, .int .u64 (b.fe : Nat)]) := by rw [hW0]; exact Hd.Bxn.made w _ _
  have HW := Lib.hid hW0
  have HR := Lib.hid hBd
  have HTR := Lib.hid hT
  have HTL : Hid (b.ts.length ≤ 4398046511104) := by obtain ⟨m, hm, -, -, hl⟩ := hB.ht; show _ ≤ _; omega
  have HLS := Lib.hid hL
  clear hW0 hT hBd hB hL
  go_enter Tryz.func152, Tryz.ntmps152
  go_upto_region 1 with fail
  rw [← HW.out]
  clear HW
  have k1 : W0.cell? ⟨w.heap.size, 2, none⟩ = some (.slice ab b.bs.length cb) := HX0.out.cell 2
  go_wp2
  clear k1
  go_loopg [5, 11] b.bs.length (fun gg sv i wx => ∃ (k : Nat) (lm : List TdM), k + gg = b.bs.length ∧ i = .int .i64 k ∧ Aside (Own wx (w.heap.size + 1) 42 sv lm ∧ lm.map (·.td) = thr b.ts (b.bs.take k) v ∧ (∀ x ∈ lm, DeepT w w.heap.size x ∧ FitT x.td)) ∧ Aside (Below w.heap.size w wx ∧ Hd.Bxn wx w.heap.size [.slice an b.ns.length cn, .slice at' b.ts.length ct, .slice ab b.bs.length cb, .int .u64 (b.fe : Nat)]))
  case atStart => exact ⟨0, [], by omega, rfl, ⟨Own.nil _ _ _, by simp [thr], by simp⟩, ⟨HB0.out, HX0.out⟩⟩
  case round =>
    obtain ⟨k, lm, hkg, rfl, HA, HK⟩ := hrel
    have HOr : Hid (Own wr (w.heap.size + 1) 42 u5 lm) := HA.out.1
    have HMr : Hid (lm.map (·.td) = thr b.ts (b.bs.take k) v) := HA.out.2.1
    have HDr : Hid (∀ x ∈ lm, DeepT w w.heap.size x ∧ FitT x.td) := HA.out.2.2
    have HBr : Hid (Below w.heap.size w wr) := HK.out.1
    have HXr : Hid (Hd.Bxn wr w.heap.size [.slice an b.ns.length cn, .slice at' b.ts.length ct, .slice ab b.bs.length cb, .int .u64 (b.fe : Nat)]) := HK.out.2
    clear HA HK HB0 HX0
    obtain ⟨q1, q2, rfl⟩ := HOr.out.slice
    cases gk with
    | zero =>
      obtain rfl : k = b.bs.length := by omega
      have HM2 : Hid (lm.map (·.td) = thr b.ts b.bs v) := by have h := HMr.out; rw [List.take_length] at h; exact h
      clear hkg
      go_wp2
      go_ret
      exact ⟨_, lm, rfl, HOr.out.le (by omega), HM2.out, HDr.out, HBr.out⟩
    | succ gg =>
      have hlk : k < b.bs.length := by omega
      have t2 : (k : Int) < (b.bs.length : Int) := by omega
      have t3 : IntKind.i64.wrap ((k : Int) + 1) = (k : Int) + 1 := by rw [IntKind.wrap_i64]; omega
      have t4 : (0 : Int) ≤ (k : Int) := by omega
      obtain ⟨g, o', rfl, hgl, hrr⟩ := HR.out (by omega)
      have hax := hrr k hlk
      have HYES := Lib.hid (thr_yes b.ts b.bs v k hlk)
      have HNO := Lib.hid (thr_no b.ts b.bs v k hlk)
      have HBT := Lib.hid (HLS.out.bt b.bs[k] (List.getElem_mem hlk))
      have hlb := HLS.out.lb
      have HLM : Hid (lm.length ≤ 31) := by
        have h1 := thr_len b.ts (b.bs.take k) v
        rw [← HMr.out, List.length_map, List.length_take] at h1
        show _ ≤ _
        omega
      clear hrr hlb
      generalize b.bs[k] = o at *
      have hrow : wr.rangeAt g (o' + k * 2) [.string o.k, .string o.v] := fun j u hj => (hax.keep HBr.out hgl) j u hj
      have HVA : Hid (∀ q, (Value.slice q1 lm.length q2).ownBlock = some q → w.heap.size + 1 ≤ q ∧ q < wr.heap.size) := fun q e => HOr.out.lt q e
      have HSZ : Hid (w.heap.size < wr.heap.size) := HXr.out.lt
      clear hax
      go_upto_region 4 with fail
      refine wp_region_list ?_
      refine wpList_plain rfl fun K hK => ?_
      go_simp
      refine hK _ _ ?_
      clear hK K
      refine wpList_load_mid rfl 106 (.tmp 13) rfl (g) (o' + k * 2) rfl [.string o.k, .string o.v] _ (hrow) Tryz.underlying106 rfl rfl ?_
      refine wpList_plain rfl fun K hK => ?_
      go_simp
      refine hK _ _ ?_
      clear hK K
      obtain ⟨th1, hbz, hx1⟩ := one_made wr [.string ⟨#[]⟩, .string ⟨#[]⟩] [.string o.k, .string o.v] 106 rfl
      refine wpList_store_mid rfl 106 (.tmp 7) (.tmp 14) rfl (wr.heap.size) 0 #[.string o.k, .string o.v] rfl rfl th1 rfl (all_oneCell_toArray (List.all_eq_true.1 (show List.all ([.string o.k, .string o.v] : List Value) (fun v => v.oneCell') = true from rfl))) ?_
      rw [show (#[.string o.k, .string o.v] : Array Value).toList = [.string o.k, .string o.v] from rfl]
      clear th1 hrow
      generalize (wr.alloc (.cells #[.string ⟨#[]⟩, .string ⟨#[]⟩] 106)).setCells wr.heap.size 0 [.string o.k, .string o.v] = y0 at *
      have HBy : Hid (Below w.heap.size w y0) := HBr.out.trans (hbz.mono HBr.out.size)
      have HOy := Lib.hid (HOr.out.keep hbz)
      have HXy := Lib.hid (HXr.out.below hbz)
      have HEy := Lib.hid hx1
      have n0 : y0.cell? ⟨wr.heap.size, 0, none⟩ = some (.string o.k) := hx1.cell 0
      have n1 : y0.cell? ⟨wr.heap.size, 1, none⟩ = some (.string o.v) := hx1.cell 1
      clear hbz hx1 HBr HOr HXr
      refine wpList_nil ?_
      by_cases hv : o.v = v
      · have HTH := Lib.hid (HYES.out hv)
        have g0 : (o.v.toList == v.toList) = true := by rw [hv]; simp
        clear hv HYES HNO
        have hft : fiK (b.ts.map (·.n)) o.k < b.ts.length := by have h := (fi_has _ _).1 HBT.out; rwa [List.length_map] at h
        obtain ⟨i, hi⟩ : ∃ i, i = fiK (b.ts.map (·.n)) o.k := ⟨_, rfl⟩
        have hto := tOf_fi HLS.out.rt hft
        rw [← hi] at hft
        have hix : ixK (b.ts.map (·.n)) o.k = (i : Nat) := by unfold ixK; rw [if_pos HBT.out, hi]
        have htd : tOf b.ts o.k = b.ts[i] := by rw [hto]; simp only [hi]
        obtain ⟨gt, ot, rfl, hgt, hrt⟩ := HTR.out (by omega)
        obtain ⟨x, hx, hat, hdx, hfx⟩ := hrt i hft
        have HXT : Hid (x.td = tOf b.ts o.k) := by rw [htd]; exact hx
        have t6 : (i : Int) < (b.ts.length : Int) := by omega
        have t7 : (0 : Int) ≤ (i : Int) := by omega
        have t8 : (b.ts.length : Int) ≤ 4398046511104 := by have := HTL.out; omega
        have HTK1 : Hid (∀ z, Below w.heap.size w z → Calls Tryz.prog 48 #[.agg #[.slice an b.ns.length cn, .slice (some ⟨gt, ot, none⟩) b.ts.length ct, .slice (some ⟨g, o', none⟩) b.bs.length cb, .int .u64 (b.fe : Nat)], .string o.k] z fun e w' => e = .returned (.int .i64 (i : Nat)) ∧ Below z.heap.size z w') := fun z hz => (HTK.out o.k z hz).mono fun e w' ⟨he, hb⟩ => ⟨by rw [hix] at he; exact he, hb⟩
        have HDX : Hid (DeepT w w.heap.size x ∧ FitT x.td) := ⟨hdx, hfx⟩
        have HAT : Hid (∀ z, Below w.heap.size w z → At z gt (ot + i * 9) x) := fun z hz => hat.keep hz hgt
        clear hi hto hix htd hrt hx hat hdx hfx hgt hft HTK
        go_upto_region 6 with fail
        have HP : Hid (∀ z, Hd.Bxn z w.heap.size [.slice an b.ns.length cn, .slice (some ⟨gt, ot, none⟩) b.ts.length ct, .slice (some ⟨g, o', none⟩) b.bs.length cb, .int .u64 (b.fe : Nat)] → Hd.Bxn z wr.heap.size [.string o.k, .string o.v] → Below w.heap.size w z → (z.cell? ⟨w.heap.size, 0, none⟩ = some (.slice an b.ns.length cn) ∧ z.cell? ⟨w.heap.size, 1, none⟩ = some (.slice (some ⟨gt, ot, none⟩) b.ts.length ct) ∧ z.cell? ⟨w.heap.size, 2, none⟩ = some (.slice (some ⟨g, o', none⟩) b.bs.length cb) ∧ z.cell? ⟨w.heap.size, 3, none⟩ = some (.int .u64 (b.fe : Nat)) ∧ z.cell? ⟨wr.heap.size, 0, none⟩ = some (.string o.k) ∧ z.cell? ⟨gt, ot + i * 9, none⟩ = some (.string x.td.n) ∧ z.cell? ⟨gt, ot + i * 9 + 1, none⟩ = some (.int .i64 x.td.z0) ∧ z.cell? ⟨gt, ot + i * 9 + 2, none⟩ = some (.int .i64 x.td.z1) ∧ z.cell? ⟨gt, ot + i * 9 + 3, none⟩ = some (.int .i64 x.td.z2) ∧ z.cell? ⟨gt, ot + i * 9 + 4, none⟩ = some (.slice x.a4 x.td.ws.length x.c4) ∧ z.cell? ⟨gt, ot + i * 9 + 5, none⟩ = some (.slice x.a5 x.td.bs.length x.c5) ∧ z.cell? ⟨gt, ot + i * 9 + 6, none⟩ = some (.string x.td.g) ∧ z.cell? ⟨gt, ot + i * 9 + 7, none⟩ = some (.string x.td.a) ∧ z.cell? ⟨gt, ot + i * 9 + 8, none⟩ = some (.int .i64 x.td.r))) := fun z h1 h2 h3 => ⟨h1.cell 0, h1.cell 1, h1.cell 2, h1.cell 3, h2.cell 0, HAT.out z h3 0 _ rfl, HAT.out z h3 1 _ rfl, HAT.out z h3 2 _ rfl, HAT.out z h3 3 _ rfl, HAT.out z h3 4 _ rfl, HAT.out z h3 5 _ rfl, HAT.out z h3 6 _ rfl, HAT.out z h3 7 _ rfl, HAT.out z h3 8 _ rfl⟩
        have HBd : Hid (Below w.heap.size w y0.drew) := below_drew HBy.out
        have HXd : Hid (Hd.Bxn y0.drew w.heap.size [.slice an b.ns.length cn, .slice (some ⟨gt, ot, none⟩) b.ts.length ct, .slice (some ⟨g, o', none⟩) b.bs.length cb, .int .u64 (b.fe : Nat)]) := by obtain ⟨T, h⟩ := HXy.out; exact ⟨T, h⟩
        have HEd : Hid (Hd.Bxn y0.drew wr.heap.size [.string o.k, .string o.v]) := by obtain ⟨T, h⟩ := HEy.out; exact ⟨T, h⟩
        have HOd : Hid (Own y0.drew (w.heap.size + 1) 42 (.slice q1 lm.length q2) lm) := HOy.out
        clear n0 n1 HBy HXy HEy HOy
        refine wp_region_held_drew (S := fun z => z.cell? ⟨w.heap.size, 0, none⟩ = some (.slice an b.ns.length cn) ∧ z.cell? ⟨w.heap.size, 1, none⟩ = some (.slice (some ⟨gt, ot, none⟩) b.ts.length ct) ∧ z.cell? ⟨w.heap.size, 2, none⟩ = some (.slice (some ⟨g, o', none⟩) b.bs.length cb) ∧ z.cell? ⟨w.heap.size, 3, none⟩ = some (.int .u64 (b.fe : Nat)) ∧ z.cell? ⟨wr.heap.size, 0, none⟩ = some (.string o.k) ∧ z.cell? ⟨gt, ot + i * 9, none⟩ = some (.string x.td.n) ∧ z.cell? ⟨gt, ot + i * 9 + 1, none⟩ = some (.int .i64 x.td.z0) ∧ z.cell? ⟨gt, ot + i * 9 + 2, none⟩ = some (.int .i64 x.td.z1) ∧ z.cell? ⟨gt, ot + i * 9 + 3, none⟩ = some (.int .i64 x.td.z2) ∧ z.cell? ⟨gt, ot + i * 9 + 4, none⟩ = some (.slice x.a4 x.td.ws.length x.c4) ∧ z.cell? ⟨gt, ot + i * 9 + 5, none⟩ = some (.slice x.a5 x.td.bs.length x.c5) ∧ z.cell? ⟨gt, ot + i * 9 + 6, none⟩ = some (.string x.td.g) ∧ z.cell? ⟨gt, ot + i * 9 + 7, none⟩ = some (.string x.td.a) ∧ z.cell? ⟨gt, ot + i * 9 + 8, none⟩ = some (.int .i64 x.td.r)) (by kernel_rfl) (HP.out _ HXd.out HEd.out HBd.out) (fun hHeld => ?_)
        generalize y0.drew = yd at *
        refine wpAnyH_take (i := 0) (v := ?_) rfl (by kernel_rfl) (by kernel_rfl) (by kernel_rfl) (fun _ _ _ h => h) (Or.inl ⟨by rfl, ?_⟩) (by assumption) ?_
        rotate_left
        · intro z hSz
          obtain ⟨c0, c1, c2, c3, c4, c5, c6, c7, c8, c9, c10, c11, c12, c13⟩ := hSz
          go_simp
          try with_reducible rfl
        try simp only [Act.put, List.setIfInBounds_toArray, List.set_cons_zero, List.set_cons_succ, List.getElem_toArray, List.getElem_cons_zero]
        refine wpAnyH_take (i := 1) (v := ?_) rfl (by kernel_rfl) (by kernel_rfl) (by kernel_rfl) (fun _ _ _ h => h) (Or.inl ⟨by rfl, ?_⟩) (by assumption) ?_
        rotate_left
        · intro z hSz
          obtain ⟨c0, c1, c2, c3, c4, c5, c6, c7, c8, c9, c10, c11, c12, c13⟩ := hSz
          go_simp
          try with_reducible rfl
        try simp only [Act.put, List.setIfInBounds_toArray, List.set_cons_zero, List.set_cons_succ, List.getElem_toArray, List.getElem_cons_succ, List.getElem_cons_zero]
        refine wpAnyH_take (i := 2) (v := ?_) rfl (by kernel_rfl) (by kernel_rfl) (by kernel_rfl) (fun _ _ _ h => h) (Or.inl ⟨by rfl, ?_⟩) (by assumption) ?_
        rotate_left
        · intro z hSz
          obtain ⟨c0, c1, c2, c3, c4, c5, c6, c7, c8, c9, c10, c11, c12, c13⟩ := hSz
          go_simp
          try with_reducible rfl
        try simp only [Act.put, List.setIfInBounds_toArray, List.set_cons_zero, List.set_cons_succ, List.getElem_toArray, List.getElem_cons_succ, List.getElem_cons_zero]
        refine wpAnyH_take (i := 3) (v := ?_) rfl (by kernel_rfl) (by kernel_rfl) (by kernel_rfl) (fun _ _ _ h => h) (Or.inl ⟨by rfl, ?_⟩) (by assumption) ?_
        rotate_left
        · intro z hSz
          obtain ⟨c0, c1, c2, c3, c4, c5, c6, c7, c8, c9, c10, c11, c12, c13⟩ := hSz
          go_simp
          try with_reducible rfl
        try simp only [Act.put, List.setIfInBounds_toArray, List.set_cons_zero, List.set_cons_succ, List.getElem_toArray, List.getElem_cons_succ, List.getElem_cons_zero]
        refine wpAnyH_take (i := 4) (v := ?_) rfl (by kernel_rfl) (by kernel_rfl) (by kernel_rfl) (fun _ _ _ h => h) (Or.inl ⟨by rfl, ?_⟩) (by assumption) ?_
        rotate_left
        · intro z hSz
          obtain ⟨c0, c1, c2, c3, c4, c5, c6, c7, c8, c9, c10, c11, c12, c13⟩ := hSz
          go_simp
          try with_reducible rfl
        try simp only [Act.put, List.setIfInBounds_toArray, List.set_cons_zero, List.set_cons_succ, List.getElem_toArray, List.getElem_cons_succ, List.getElem_cons_zero]
        refine wpAnyH_take (i := 5) (v := ?_) rfl (by kernel_rfl) (by kernel_rfl) (by kernel_rfl) (fun _ _ _ h => h) (Or.inl ⟨by rfl, ?_⟩) (by assumption) ?_
        rotate_left
        · intro z hSz
          obtain ⟨c0, c1, c2, c3, c4, c5, c6, c7, c8, c9, c10, c11, c12, c13⟩ := hSz
          go_simp
          try with_reducible rfl
        try simp only [Act.put, List.setIfInBounds_toArray, List.set_cons_zero, List.set_cons_succ, List.getElem_toArray, List.getElem_cons_succ, List.getElem_cons_zero]
        refine wpAnyH_ready (rs := [6]) (by kernel_rfl) (by simp) ?_
        refine AllReadyH.cons rfl (fun K hK => ?_) AllReadyH.nil
        go_simp
        refine (HTK1.out _ HBd.out).mono ?_
        rintro e w5 ⟨rfl, hb⟩
        have HB5 : Hid (Below w.heap.size w w5) := HBd.out.trans (hb.mono HBd.out.size)
        have HX5 := Lib.hid (HXd.out.below hb)
        have HE5 := Lib.hid (HEd.out.below hb)
        have HO5 := Lib.hid (HOd.out.keep hb)
        clear hb HBd HXd HEd HOd
        refine hK.out _ _ (HP.out _ HX5.out HE5.out HB5.out) (fun hHeld2 => ?_)
        clear hK K hHeld
        have hHeld := hHeld2
        clear hHeld2
        try simp only [Act.put, List.setIfInBounds_toArray, List.set_cons_zero, List.set_cons_succ, List.getElem_toArray, List.getElem_cons_succ, List.getElem_cons_zero]
        refine wpAnyH_take (i := 7) (v := ?_) rfl (by kernel_rfl) (by kernel_rfl) (by kernel_rfl) (fun _ _ _ h => h) (Or.inl ⟨by rfl, ?_⟩) (by assumption) ?_
        rotate_left
        · intro z hSz
          obtain ⟨c0, c1, c2, c3, c4, c5, c6, c7, c8, c9, c10, c11, c12, c13⟩ := hSz
          go_simp
          try with_reducible rfl
        try simp only [Act.put, List.setIfInBounds_toArray, List.set_cons_zero, List.set_cons_succ, List.getElem_toArray, List.getElem_cons_succ, List.getElem_cons_zero]
        refine wpAnyH_take (i := 8) (v := ?_) rfl (by kernel_rfl) (by kernel_rfl) (by kernel_rfl) (fun _ _ _ h => h) (Or.inl ⟨by rfl, ?_⟩) (by assumption) ?_
        rotate_left
        · intro z hSz
          obtain ⟨c0, c1, c2, c3, c4, c5, c6, c7, c8, c9, c10, c11, c12, c13⟩ := hSz
          go_simp
          try with_reducible rfl
        try simp only [Act.put, List.setIfInBounds_toArray, List.set_cons_zero, List.set_cons_succ, List.getElem_toArray, List.getElem_cons_succ, List.getElem_cons_zero]
        refine wpAnyH_ready (rs := [9]) (by kernel_rfl) (by simp) ?_
        refine AllReadyH.cons rfl (fun K hK => ?_) AllReadyH.nil
        go_simp
        have ha : Below w5.heap.size w5 (w5.alloc (.cells #[.string x.td.n, .int .i64 x.td.z0, .int .i64 x.td.z1, .int .i64 x.td.z2, .slice x.a4 x.td.ws.length x.c4, .slice x.a5 x.td.bs.length x.c5, .string x.td.g, .string x.td.a, .int .i64 x.td.r] 42)) := al _ _
        have HB6 : Hid (Below w.heap.size w (w5.alloc (.cells #[.string x.td.n, .int .i64 x.td.z0, .int .i64 x.td.z1, .int .i64 x.td.z2, .slice x.a4 x.td.ws.length x.c4, .slice x.a5 x.td.bs.length x.c5, .string x.td.g, .string x.td.a, .int .i64 x.td.r] 42))) := HB5.out.trans (ha.mono HB5.out.size)
        have HX6 := Lib.hid (HX5.out.below ha)
        have HE6 := Lib.hid (HE5.out.below ha)
        have HO6 := Lib.hid (HO5.out.keep ha)
        have HSL : Hid (Sl (w5.alloc (.cells #[.string x.td.n, .int .i64 x.td.z0, .int .i64 x.td.z1, .int .i64 x.td.z2, .slice x.a4 x.td.ws.length x.c4, .slice x.a5 x.td.bs.length x.c5, .string x.td.g, .string x.td.a, .int .i64 x.td.r] 42)) w5.heap.size (w5.alloc (.cells #[.string x.td.n, .int .i64 x.td.z0, .int .i64 x.td.z1, .int .i64 x.td.z2, .slice x.a4 x.td.ws.length x.c4, .slice x.a5 x.td.bs.length x.c5, .string x.td.g, .string x.td.a, .int .i64 x.td.r] 42)).heap.size (.slice (some ⟨w5.heap.size, 0, none⟩) 1 1) [x]) := sl_one w5 x _
        clear ha HB5 HX5 HE5 HO5
        refine hK.out _ _ (HP.out _ HX6.out HE6.out HB6.out) (fun hHeld2 => ?_)
        clear hK K hHeld
        have hHeld := hHeld2
        clear hHeld2
        try simp only [Act.put, List.setIfInBounds_toArray, List.set_cons_zero, List.set_cons_succ, List.getElem_toArray, List.getElem_cons_succ, List.getElem_cons_zero]
        refine wpAnyH_ready (rs := [10]) (by kernel_rfl) (by simp) ?_
        refine AllReadyH.cons rfl (fun K hK => ?_) AllReadyH.nil
        obtain ⟨i0, hi0, hz0, hz1, hz2⟩ := info_parts info_t
        have hbs6 : w.heap.size + 1 ≤ (w5.alloc (.cells #[.string x.td.n, .int .i64 x.td.z0, .int .i64 x.td.z1, .int .i64 x.td.z2, .slice x.a4 x.td.ws.length x.c4, .slice x.a5 x.td.bs.length x.c5, .string x.td.g, .string x.td.a, .int .i64 x.td.r] 42)).heap.size := by have := HX6.out.lt; omega
        obtain ⟨v7, w7, hr, ho7, hg7, -⟩ := run_app (P := Tryz.prog) (ty := 23) Tryz.underlying23 hi0 hz0 hz1 hz2 rfl HO6.out HSL.out (by have := HLM.out; simp; omega) (by have := HLM.out; simp; omega) hbs6
        obtain ⟨g7, n7, hv7⟩ := ho7.slice
        generalize (lm ++ [x]).length = L7 at hv7
        subst hv7
        refine step_app rfl (.tmp 19) (.tmp 28) 23 rfl _ _ _ rfl rfl hr ?_
        clear hr
        have HB7 : Hid (Below w.heap.size w w7) := HB6.out.grown hg7 (by omega) (fun q e => by have := (HVA.out q e).1; omega)
        have HX7 := Lib.hid (bxn_grown HX6.out hg7 (fun e => by have := (HVA.out _ e).1; omega))
        have HE7 := Lib.hid (bxn_grown HE6.out hg7 (fun e => by have := (HVA.out _ e).2; omega))
        have HO7 := Lib.hid ho7
        clear ho7 hg7 hbs6 HB6 HX6 HE6 HO6 HSL
        refine hK.out _ _ (HP.out _ HX7.out HE7.out HB7.out) (fun hHeld2 => ?_)
        clear hK K hHeld
        have hHeld := hHeld2
        clear hHeld2
        try simp only [Act.put, List.setIfInBounds_toArray, List.set_cons_zero, List.set_cons_succ, List.getElem_toArray, List.getElem_cons_succ, List.getElem_cons_zero]
        refine wpAnyH_take (i := 11) (v := ?_) rfl (by kernel_rfl) (by kernel_rfl) (by kernel_rfl) (fun _ _ _ h => h) (Or.inl ⟨by rfl, ?_⟩) (by assumption) ?_
        rotate_left
        · intro z hSz
          obtain ⟨c0, c1, c2, c3, c4, c5, c6, c7, c8, c9, c10, c11, c12, c13⟩ := hSz
          go_simp
          try with_reducible rfl
        try simp only [Act.put, List.setIfInBounds_toArray, List.set_cons_zero, List.set_cons_succ, List.getElem_toArray, List.getElem_cons_succ, List.getElem_cons_zero]
        refine wpAnyH_done (by kernel_rfl) ?_ _
        clear hHeld
        go_wp2
        go_roundg gg
        case measure => omega
        case rel =>
          refine ⟨k + 1, lm ++ [x], by omega, by simp, ⟨HO7.out, ?_, fun y hy => ?_⟩, ⟨HB7.out, HX7.out⟩⟩
          · rw [HTH.out, List.map_append, HMr.out, List.map_singleton, HXT.out]
          · rcases List.mem_append.1 hy with h | h
            · exact HDr.out y h
            · rw [List.mem_singleton.1 h]; exact HDX.out
      · have HTH := Lib.hid (HNO.out hv)
        obtain ⟨g0, g1⟩ := Hd.ba_no hv
        clear hv HYES HNO
        go_wp2
        go_roundg gg
        case measure => omega
        case rel => exact ⟨k + 1, lm, by omega, by simp, ⟨HOy.out, by rw [HTH.out]; exact HMr.out, HDr.out⟩, ⟨HBy.out, HXy.out⟩⟩
set_option maxRecDepth 100000 in
set_option maxHeartbeats 4000000 in
theorem used_ref (b : Bk) (vn vt vb : Value) (v : ByteArray) (w : World) (hB : Books w w.heap.size vn vt vb b) (hL : Lists b) :
    Calls Tryz.prog 85 #[.agg #[vn, vt, vb, .int .u64 (b.fe : Nat)], .string v] w fun e w' => e = .returned (.agg #[.int .i64 (us0 b v), .int .i64 (us1 b v), .int .i64 (us2 b v)]) ∧ Below w.heap.size w w' := by
  have HTH : Hid (∀ z, Below w.heap.size w z → Calls Tryz.prog 152 #[.agg #[vn, vt, vb, .int .u64 (b.fe : Nat)], .string v] z (ThrIs b v z)) := fun z hz => there_ref b vn vt vb v z (hB.on hz) hL
  have HSM : Hid (∀ z v' (lm : List TdM) base, Own z base 42 v' lm → lm.map (·.td) = thr b.ts b.bs v → (∀ x ∈ lm, FitT x.td) → Calls Tryz.prog 153 #[v'] z fun e w' => e = .returned (.tuple #[.agg #[.int .i64 (us0 b v), .int .i64 (us1 b v), .int .i64 (us2 b v)], .int .i64 0]) ∧ Below z.heap.size z w') := by
    intro z v' lm base ho hm hf
    have hl : lm.length ≤ 32 := by
      have h1 := thr_len b.ts b.bs v
      rw [← hm, List.length_map] at h1
      have := hL.lb
      omega
    refine (Rg.sum_ref v' (lm.map tkM) z (own_tasks ho (by omega) hf)).mono ?_
    rintro e w' ⟨he, hb⟩
    have h2 := sum_td hl (fun x hx => hL.kt _ (hL.thr_mem (v := v) (by rw [← hm]; exact List.mem_map_of_mem hx))) he
    rw [hm] at h2
    exact ⟨h2, hb⟩
  obtain ⟨an, cn, rfl⟩ := hB.hn.slice
  obtain ⟨at', ct, rfl⟩ := hB.ht.slice
  obtain ⟨ab, cb, rfl⟩ := hB.hb.slice
  obtain ⟨s0, hs0⟩ : ∃ s, s = us0 b v := ⟨_, rfl⟩
  obtain ⟨s1, hs1⟩ : ∃ s, s = us1 b v := ⟨_, rfl⟩
  obtain ⟨s2, hs2⟩ : ∃ s, s = us2 b v := ⟨_, rfl⟩
  rw [← hs0, ← hs1, ← hs2] at HSM ⊢
  obtain ⟨W0, hW0⟩ : ∃ W0, W0 = (w.alloc (.cells #[.slice an b.ns.length cn, .slice at' b.ts.length ct, .slice ab b.bs.length cb, .int .u64 (b.fe : Nat)] 27)).alloc (.cells #[.int .i64 0, .int .i64 0, .int .i64 0] 39) := ⟨_, rfl⟩
  have HF0 : Hid (Fr2 w W0 [.slice an b.ns.length cn, .slice at' b.ts.length ct, .slice ab b.bs.length cb, .int .u64 (b.fe : Nat)] [.int .i64 0, .int .i64 0, .int .i64 0]) := by rw [hW0]; exact Fr2.made w _ _ _ _
  have HW := Lib.hid hW0
  clear hW0 hB hL hs0 hs1 hs2
  go_enter Tryz.func85, Tryz.ntmps85
  go_upto_region 1 with fail
  rw [← HW.out]
  clear HW
  refine wp_region_list ?_
  refine wpList_load_mid rfl 27 (.tmp 2) rfl (w.heap.size) (0) rfl [.slice an b.ns.length cn, .slice at' b.ts.length ct, .slice ab b.bs.length cb, .int .u64 (b.fe : Nat)] _ (HF0.out.p.range 0) Tryz.underlying27 rfl rfl ?_
  refine wpList_plain rfl fun K hK => ?_
  go_simp
  refine hK _ _ ?_
  clear hK K
  refine wpList_plain rfl fun K hK => ?_
  go_wp2_with fail
  refine (HTH.out W0 HF0.out.b).mono ?_
  rintro e w1 ⟨v1, lm, rfl, ho, hm, hd, hb⟩
  refine hK _ _ ?_
  clear hK K
  have HF1 := Lib.hid (HF0.out.below hb)
  have HO1 := Lib.hid (And.intro ho (And.intro hm (fun x hx => (hd x hx).2)))
  clear ho hm hd hb HF0 HTH
  refine wpList_plain rfl fun K hK => ?_
  go_wp2_with fail
  refine (HSM.out w1 v1 lm _ HO1.out.1 HO1.out.2.1 HO1.out.2.2).mono ?_
  rintro e w2 ⟨rfl, hb⟩
  refine hK _ _ ?_
  clear hK K
  have HF2 := Lib.hid (HF1.out.below hb)
  clear hb HF1 HSM HO1
  refine wpList_plain rfl fun K hK => ?_
  go_simp
  refine hK _ _ ?_
  clear hK K
  refine wpList_plain rfl fun K hK => ?_
  go_simp
  refine hK _ _ ?_
  clear hK K
  refine wpList_plain rfl fun K hK => ?_
  go_simp
  refine hK _ _ ?_
  clear hK K
  refine wpList_plain rfl fun K hK => ?_
  go_simp
  refine hK _ _ ?_
  clear hK K
  obtain ⟨th1, hbz, hx1⟩ := one_made w2 [.int .i64 0, .int .i64 0, .int .i64 0] [.int .i64 s0, .int .i64 s1, .int .i64 s2] 39 rfl
  refine wpList_store_mid rfl 39 (.tmp 5) (.tmp 12) rfl (w2.heap.size) 0 #[.int .i64 s0, .int .i64 s1, .int .i64 s2] rfl rfl th1 rfl (all_oneCell_toArray (List.all_eq_true.1 (show List.all ([.int .i64 s0, .int .i64 s1, .int .i64 s2] : List Value) (fun v => v.oneCell') = true from rfl))) ?_
  rw [show (#[.int .i64 s0, .int .i64 s1, .int .i64 s2] : Array Value).toList = [.int .i64 s0, .int .i64 s1, .int .i64 s2] from rfl]
  have HF3 := Lib.hid (HF2.out.below hbz)
  have HY := Lib.hid hx1
  clear th1 hbz hx1 HF2
  generalize hg : w2.heap.size = zA at *
  generalize (w2.alloc (.cells #[.int .i64 0, .int .i64 0, .int .i64 0] 39)).setCells zA 0 [.int .i64 s0, .int .i64 s1, .int .i64 s2] = w3 at *
  clear hg
  refine wpList_plain rfl fun K hK => ?_
  go_simp
  refine hK _ _ ?_
  clear hK K
  refine wpList_nil ?_
  go_upto_region 2 with fail
  refine wp_region_list ?_
  refine wpList_load_mid rfl 39 (.tmp 5) rfl (zA) (0) rfl [.int .i64 s0, .int .i64 s1, .int .i64 s2] _ (HY.out.range 0) Tryz.underlying39 rfl rfl ?_
  have hth := HF3.out.r.there 3 rfl
  refine wpList_store_mid rfl 39 (.tmp 4) (.tmp 14) rfl (w.heap.size + 1) 0 #[.int .i64 s0, .int .i64 s1, .int .i64 s2] rfl rfl hth rfl (all_oneCell_toArray (List.all_eq_true.1 (show List.all ([.int .i64 s0, .int .i64 s1, .int .i64 s2] : List Value) (fun v => v.oneCell') = true from rfl))) ?_
  rw [show (#[.int .i64 s0, .int .i64 s1, .int .i64 s2] : Array Value).toList = [.int .i64 s0, .int .i64 s1, .int .i64 s2] from rfl]
  have HF4 := Lib.hid (HF3.out.setR [.int .i64 s0, .int .i64 s1, .int .i64 s2] rfl)
  clear hth HF3 HY
  generalize w3.setCells (w.heap.size + 1) 0 [.int .i64 s0, .int .i64 s1, .int .i64 s2] = w4 at *
  refine wpList_nil ?_
  go_wp2
  exact Hd.bodyPost_bx rfl (w.heap.size + 1) [.int .i64 s0, .int .i64 s1, .int .i64 s2] _ rfl rfl HF4.out.r Tryz.underlying39 rfl rfl ⟨rfl, HF4.out.b⟩
end Bo
end Go.Proofs.YthbmnkeigmbbdaaGreat

/-
  WHAT IS ON A NODE, by the document: gafferref08.node.
-/
namespace Go.Proofs.YthbmnkeigmbbdaaGreat
open Go.RowKit Go.Lib
namespace Bo
open Rw
set_option linter.unusedVariables false
/-- Each suits the node, and bears those ahead of it. -/
def spF (n : Hd.Nd) : List Hd.Td → List Hd.Td → Bool
  | _, [] => true
  | d, t :: r => suB t n && (d.all (fun u => beB t u) && spF n (d ++ [t]) r)
theorem sp_step (n : Hd.Nd) (l : List Hd.Td) (k : Nat) (h : k < l.length) : spF n (l.take k) (l.drop k) = (suB l[k] n && ((l.take k).all (fun u => beB l[k] u) && spF n (l.take (k + 1)) (l.drop (k + 1)))) := by
  rw [List.drop_eq_getElem_cons h, List.take_succ_eq_append_getElem h]
  rfl
/-- Whether what is on a node is right. -/
def ndB (b : Bk) (n : Hd.Nd) : Bool := decide (us0 b n.n ≤ n.z0) && (decide (us1 b n.n ≤ n.z1) && (decide (us2 b n.n ≤ n.z2) && spF n [] (thr b.ts b.bs n.n)))
theorem ar0 (z0 z1 z2 : Int) (w : World) : (Instr.index 39 (.agg #[.int .i64 z0, .int .i64 z1, .int .i64 z2]) (.int .i64 0)).run Tryz.prog w = .ok (.int .i64 z0) w := by kernel_rfl
theorem ar1 (z0 z1 z2 : Int) (w : World) : (Instr.index 39 (.agg #[.int .i64 z0, .int .i64 z1, .int .i64 z2]) (.int .i64 1)).run Tryz.prog w = .ok (.int .i64 z1) w := by kernel_rfl
theorem ar2 (z0 z1 z2 : Int) (w : World) : (Instr.index 39 (.agg #[.int .i64 z0, .int .i64 z1, .int .i64 z2]) (.int .i64 2)).run Tryz.prog w = .ok (.int .i64 z2) w := by kernel_rfl
theorem slice_inj2 {a a' : Option Addr} {n n' c c' : Nat} (h : Value.slice a n c = Value.slice a' n' c') : a = a' ∧ c = c' := by
  simp only [Value.slice.injEq] at h
  exact ⟨h.1, h.2.2⟩
theorem all_false {α : Type} {f : α → Bool} (l : List α) (k j : Nat) (hj : j < k) (h : j < l.length) (hf : f l[j] = false) : (l.take k).all f = false := by
  rw [← Bool.not_eq_true, List.all_eq_true]
  intro ha
  have hm : l[j] ∈ l.take k := by
    rw [List.mem_take_iff_getElem]
    exact ⟨j, by omega, rfl⟩
  rw [ha _ hm] at hf
  cases hf
set_option maxRecDepth 100000 in
set_option maxHeartbeats 4000000 in
theorem node_ref8 (b : Bk) (vn vt vb : Value) (y : NdM) (w : World) (hB : Books w w.heap.size vn vt vb b) (hL : Lists b) (hd : DeepN w w.heap.size y) (hf : FitN y.nd) :
    Calls Tryz.prog 83 #[.agg #[vn, vt, vb, .int .u64 (b.fe : Nat)], .agg #[.string y.nd.n, .int .i64 y.nd.z0, .int .i64 y.nd.z1, .int .i64 y.nd.z2, .slice y.a2 y.nd.ls.length y.c2, .slice y.a3 y.nd.ts.length y.c3]] w fun e w' => e = .returned (.bool (ndB b y.nd)) ∧ Below w.heap.size w w' := by
  have HTH : Hid (∀ z, Below w.heap.size w z → Calls Tryz.prog 152 #[.agg #[vn, vt, vb, .int .u64 (b.fe : Nat)], .string y.nd.n] z (ThrIs b y.nd.n z)) := fun z hz => there_ref b vn vt vb y.nd.n z (hB.on hz) hL
  have HSM : Hid (∀ z v' (lm : List TdM) base, Own z base 42 v' lm → lm.map (·.td) = thr b.ts b.bs y.nd.n → (∀ x ∈ lm, FitT x.td) → Calls Tryz.prog 153 #[v'] z fun e w' => e = .returned (.tuple #[.agg #[.int .i64 (us0 b y.nd.n), .int .i64 (us1 b y.nd.n), .int .i64 (us2 b y.nd.n)], .int .i64 0]) ∧ Below z.heap.size z w') := by
    intro z v' lm base ho hm hf
    have hl : lm.length ≤ 32 := by
      have h1 := thr_len b.ts b.bs y.nd.n
      rw [← hm, List.length_map] at h1
      have := hL.lb
      omega
    refine (Rg.sum_ref v' (lm.map tkM) z (own_tasks ho (by omega) hf)).mono ?_
    rintro e w' ⟨he, hb⟩
    have h2 := sum_td hl (fun x hx => hL.kt _ (hL.thr_mem (v := y.nd.n) (by rw [← hm]; exact List.mem_map_of_mem hx))) he
    rw [hm] at h2
    exact ⟨h2, hb⟩
  have HL32 : Hid (∀ l : List Hd.Td, l = thr b.ts b.bs y.nd.n → l.length ≤ 32) := fun l e => by
    have h1 := thr_len b.ts b.bs y.nd.n
    have := hL.lb
    rw [e]
    omega
  obtain ⟨an, cn, rfl⟩ := hB.hn.slice
  obtain ⟨at', ct, rfl⟩ := hB.ht.slice
  obtain ⟨ab, cb, rfl⟩ := hB.hb.slice
  obtain ⟨s0, hs0⟩ : ∃ s, s = us0 b y.nd.n := ⟨_, rfl⟩
  obtain ⟨s1, hs1⟩ : ∃ s, s = us1 b y.nd.n := ⟨_, rfl⟩
  obtain ⟨s2, hs2⟩ : ∃ s, s = us2 b y.nd.n := ⟨_, rfl⟩
  obtain ⟨r, hr⟩ : ∃ r, r = ndB b y.nd := ⟨_, rfl⟩
  have HNB : Hid (r = (decide (s0 ≤ y.nd.z0) && (decide (s1 ≤ y.nd.z1) && (decide (s2 ≤ y.nd.z2) && spF y.nd [] (thr b.ts b.bs y.nd.n))))) := by rw [hr, hs0, hs1, hs2]; exact rfl
  rw [← hs0, ← hs1, ← hs2] at HSM
  rw [← hr]
  have HBE : Hid (∀ (x u : TdM) z, Calls Tryz.prog 155 #[.agg #[.string x.td.n, .int .i64 x.td.z0, .int .i64 x.td.z1, .int .i64 x.td.z2, .slice x.a4 x.td.ws.length x.c4, .slice x.a5 x.td.bs.length x.c5, .string x.td.g, .string x.td.a, .int .i64 x.td.r], .agg #[.string u.td.n, .int .i64 u.td.z0, .int .i64 u.td.z1, .int .i64 u.td.z2, .slice u.a4 u.td.ws.length u.c4, .slice u.a5 u.td.bs.length u.c5, .string u.td.g, .string u.td.a, .int .i64 u.td.r]] z fun e w' => e = .returned (.bool (beB x.td u.td)) ∧ Below z.heap.size z w') := fun x u z => Rg.bear_ref _ _ _ _ _ _ _ _ _ _ _ _ _ _ _ _ _ _ _ _ _ _ _ _ _ _ z
  obtain ⟨W0, hW0⟩ : ∃ W0, W0 = (w.alloc (.cells #[.slice an b.ns.length cn, .slice at' b.ts.length ct, .slice ab b.bs.length cb, .int .u64 (b.fe : Nat)] 27)).alloc (.cells #[.string y.nd.n, .int .i64 y.nd.z0, .int .i64 y.nd.z1, .int .i64 y.nd.z2, .slice y.a2 y.nd.ls.length y.c2, .slice y.a3 y.nd.ts.length y.c3] 45) := ⟨_, rfl⟩
  have HF0 : Hid (Fr2 w W0 [.slice an b.ns.length cn, .slice at' b.ts.length ct, .slice ab b.bs.length cb, .int .u64 (b.fe : Nat)] [.string y.nd.n, .int .i64 y.nd.z0, .int .i64 y.nd.z1, .int .i64 y.nd.z2, .slice y.a2 y.nd.ls.length y.c2, .slice y.a3 y.nd.ts.length y.c3]) := by rw [hW0]; exact Fr2.made w _ _ _ _
  have HSU : Hid (∀ (x : TdM) z, DeepT W0 W0.heap.size x → FitT x.td → Below W0.heap.size W0 z → Below w.heap.size w z → Calls Tryz.prog 154 #[.agg #[.string x.td.n, .int .i64 x.td.z0, .int .i64 x.td.z1, .int .i64 x.td.z2, .slice x.a4 x.td.ws.length x.c4, .slice x.a5 x.td.bs.length x.c5, .string x.td.g, .string x.td.a, .int .i64 x.td.r], .agg #[.string y.nd.n, .int .i64 y.nd.z0, .int .i64 y.nd.z1, .int .i64 y.nd.z2, .slice y.a2 y.nd.ls.length y.c2, .slice y.a3 y.nd.ts.length y.c3]] z fun e w' => e = .returned (.bool (suB x.td y.nd)) ∧ Below z.heap.size z w') := fun x z hdx hfx hz0 hz =>
    Rg.suits_ref _ _ _ _ _ _ _ _ _ _ _ _ _ _ _ _ _ _ _ _ _ _ _ x.td.ws x.td.bs y.nd.ls y.nd.ts z ((hdx.on hz0).pr hfx).1 ((hdx.on hz0).pr hfx).2 ((hd.on hz).pr hf).1 ((hd.on hz).pr hf).2
  have HW := Lib.hid hW0
  clear hW0 hB hL hs0 hs1 hs2 hr hd hf
  go_enter Tryz.func83, Tryz.ntmps83
  go_upto_region 1 with fail
  rw [← HW.out]
  clear HW
  refine wp_region_list ?_
  refine wpList_load_mid rfl 27 (.tmp 2) rfl (w.heap.size) (0) rfl [.slice an b.ns.length cn, .slice at' b.ts.length ct, .slice ab b.bs.length cb, .int .u64 (b.fe : Nat)] _ (HF0.out.p.range 0) Tryz.underlying27 rfl rfl ?_
  refine wpList_plain rfl fun K hK => ?_
  go_simp
  refine hK _ _ ?_
  clear hK K
  have k0 : W0.cell? ⟨w.heap.size + 1, 0, none⟩ = some (.string y.nd.n) := HF0.out.r.cell 0
  refine wpList_plain rfl fun K hK => ?_
  go_simp
  refine hK _ _ ?_
  clear hK K
  clear k0
  refine wpList_plain rfl fun K hK => ?_
  go_wp2_with fail
  refine (HTH.out W0 HF0.out.b).mono ?_
  rintro e w1 ⟨v1, lm, rfl, ho, hm, hd, hb⟩
  refine hK _ _ ?_
  clear hK K
  have HF1 := Lib.hid (HF0.out.below hb)
  have HO1 := Lib.hid ho
  have HM1 := Lib.hid hm
  have HD1 : Hid (∀ x ∈ lm, DeepT W0 W0.heap.size x ∧ FitT x.td) := hd
  have HB0 := Lib.hid HF0.out.b
  have HB01 : Hid (Below W0.heap.size W0 w1) := hb
  clear ho hm hd hb HF0 HTH
  refine wpList_plain rfl fun K hK => ?_
  go_simp
  refine hK _ _ ?_
  clear hK K
  refine wpList_nil ?_
  obtain ⟨g1, n1, rfl⟩ := HO1.out.slice
  have HLL : Hid (lm.length ≤ 32) := by have h := HL32.out _ HM1.out; rw [List.length_map] at h; exact h
  go_upto_region 2 with fail
  refine wp_region_list ?_
  refine wpList_plain rfl fun K hK => ?_
  go_simp
  refine hK _ _ ?_
  clear hK K
  refine wpList_plain rfl fun K hK => ?_
  go_wp2_with fail
  refine (HSM.out w1 _ lm _ HO1.out HM1.out (fun x hx => (HD1.out x hx).2)).mono ?_
  rintro e w2 ⟨rfl, hb⟩
  refine hK _ _ ?_
  clear hK K
  have HF2 := Lib.hid (HF1.out.below hb)
  have HO2 := Lib.hid (HO1.out.keep hb)
  have HB02 : Hid (Below W0.heap.size W0 w2) := HB01.out.trans (hb.mono HB01.out.size)
  clear hb HF1 HO1 HB01 HSM
  refine wpList_plain rfl fun K hK => ?_
  go_simp
  refine hK _ _ ?_
  clear hK K
  refine wpList_plain rfl fun K hK => ?_
  go_simp
  refine hK _ _ ?_
  clear hK K
  refine wpList_plain rfl fun K hK => ?_
  go_simp
  refine hK _ _ ?_
  clear hK K
  refine wpList_plain rfl fun K hK => ?_
  go_simp
  refine hK _ _ ?_
  clear hK K
  obtain ⟨th1, hbz, hx1⟩ := one_made w2 [.int .i64 0, .int .i64 0, .int .i64 0] [.int .i64 s0, .int .i64 s1, .int .i64 s2] 39 rfl
  refine wpList_store_mid rfl 39 (.tmp 6) (.tmp 21) rfl (w2.heap.size) 0 #[.int .i64 s0, .int .i64 s1, .int .i64 s2] rfl rfl th1 rfl (all_oneCell_toArray (List.all_eq_true.1 (show List.all ([.int .i64 s0, .int .i64 s1, .int .i64 s2] : List Value) (fun v => v.oneCell') = true from rfl))) ?_
  rw [show (#[.int .i64 s0, .int .i64 s1, .int .i64 s2] : Array Value).toList = [.int .i64 s0, .int .i64 s1, .int .i64 s2] from rfl]
  have HF3 := Lib.hid (HF2.out.below hbz)
  have HO3 := Lib.hid (HO2.out.keep hbz)
  have HY := Lib.hid hx1
  have HB03 : Hid (Below W0.heap.size W0 ((w2.alloc (.cells #[.int .i64 0, .int .i64 0, .int .i64 0] 39)).setCells w2.heap.size 0 [.int .i64 s0, .int .i64 s1, .int .i64 s2])) := HB02.out.trans (hbz.mono HB02.out.size)
  clear th1 hbz hx1 HF2 HO2 HB02
  obtain ⟨zA, hzA⟩ : ∃ q : Nat, q = w2.heap.size := ⟨_, rfl⟩
  rw [← hzA] at HY HF3 HO3 HB03 ⊢
  generalize (w2.alloc (.cells #[.int .i64 0, .int .i64 0, .int .i64 0] 39)).setCells zA 0 [.int .i64 s0, .int .i64 s1, .int .i64 s2] = w3 at *
  clear hzA
  refine wpList_plain rfl fun K hK => ?_
  go_simp
  refine hK _ _ ?_
  clear hK K
  refine wpList_nil ?_
  go_upto_region 3 with fail
  refine wp_region_list ?_
  refine wpList_plain rfl fun K hK => ?_
  go_simp
  refine hK _ _ ?_
  clear hK K
  refine wpList_load_mid rfl 39 (.tmp 23) rfl (w.heap.size + 1) (1) rfl [.int .i64 y.nd.z0, .int .i64 y.nd.z1, .int .i64 y.nd.z2] _ (rng_mid HF3.out.r 1 _ rfl) Tryz.underlying39 rfl rfl ?_
  refine wpList_plain rfl fun K hK => ?_
  go_simp
  refine hK _ _ ?_
  clear hK K
  refine wpList_nil ?_
  go_wp2
  go_loopg [25] 3 (fun gg i wx => ∃ m : Nat, m + gg = 3 ∧ i = .int .i64 m ∧ Aside ((0 < m → s0 ≤ y.nd.z0) ∧ (1 < m → s1 ≤ y.nd.z1) ∧ (2 < m → s2 ≤ y.nd.z2)) ∧ Aside (Below w3.heap.size w3 wx))
  case atStart => exact ⟨0, by omega, rfl, ⟨by omega, by omega, by omega⟩, Below.refl _ _⟩
  case round =>
    obtain ⟨m, hmg, rfl, HQ, HA⟩ := hrel
    have HBr : Hid (Below w3.heap.size w3 wr) := HA.out
    have HQr : Hid ((0 < m → s0 ≤ y.nd.z0) ∧ (1 < m → s1 ≤ y.nd.z1) ∧ (2 < m → s2 ≤ y.nd.z2)) := HQ.out
    clear HA HQ
    cases gk with
    | zero =>
      obtain rfl : m = 3 := by omega
      have HN2 : Hid (r = spF y.nd [] (thr b.ts b.bs y.nd.n)) := by
        have h := HNB.out
        rw [decide_eq_true (HQr.out.1 (by omega)), decide_eq_true (HQr.out.2.1 (by omega)), decide_eq_true (HQr.out.2.2 (by omega))] at h
        exact (by simpa using h : r = spF y.nd [] (thr b.ts b.bs y.nd.n))
      have HF4 := Lib.hid (HF3.out.below HBr.out)
      have HB0F : Hid (Below W0.heap.size W0 wr) := HB03.out.trans (HBr.out.mono HB03.out.size)
      have HO4 := Lib.hid (HO3.out.keep HBr.out)
      obtain ⟨zF, rfl⟩ : ∃ q, q = wr := ⟨wr, rfl⟩
      clear hmg HQr HNB HBr HY HF3 HO3 HB03
      go_wp2
      go_loopg [37] lm.length (fun gg i wx => ∃ k : Nat, k + gg = lm.length ∧ i = .int .i64 k ∧ Aside (r = spF y.nd ((thr b.ts b.bs y.nd.n).take k) ((thr b.ts b.bs y.nd.n).drop k)) ∧ Aside (Below zF.heap.size zF wx))
      case atStart => exact ⟨0, by omega, rfl, HN2.out, Below.refl _ _⟩
      case round =>
        obtain ⟨k, hkg, rfl, HQ, HA⟩ := hrel
        have HBr : Hid (Below zF.heap.size zF wr) := HA.out
        have HQr : Hid (r = spF y.nd ((thr b.ts b.bs y.nd.n).take k) ((thr b.ts b.bs y.nd.n).drop k)) := HQ.out
        have HBw : Hid (Below w.heap.size w wr) := HF4.out.b.trans (HBr.out.mono HF4.out.b.size)
        clear HA HQ HN2
        cases gk with
        | zero =>
          obtain rfl : k = lm.length := by omega
          have HE : Hid (r = true) := by
            have h := HQr.out
            have hl : (thr b.ts b.bs y.nd.n).length ≤ lm.length := by rw [← HM1.out, List.length_map]; exact Nat.le_refl _
            rw [List.drop_eq_nil_of_le hl] at h
            exact h
          clear hkg HQr
          go_wp2
          go_ret
          exact ⟨by rw [HE.out]; rfl, HBw.out⟩
        | succ gg =>
          have hlk : k < lm.length := by omega
          have t2 : (k : Int) < (lm.length : Int) := by omega
          have t3 : IntKind.i64.wrap ((k : Int) + 1) = (k : Int) + 1 := by rw [IntKind.wrap_i64]; have := HLL.out; omega
          have t4 : (0 : Int) ≤ (k : Int) := by omega
          obtain ⟨g, cap, hv, -, hgl, hat, -⟩ := HO4.out.form (by omega)
          obtain ⟨hg1, hc1⟩ := slice_inj2 hv
          subst hg1
          have hcap : lm.length ≤ n1 := by have h := (HO4.out.sl (by have := HLL.out; omega)); obtain ⟨a, c, e, h1, -⟩ := h; rw [(slice_inj2 e).2]; exact h1
          have HATT : Hid (∀ z j (hj : j < lm.length), Below zF.heap.size zF z → At z g (j * 9) lm[j]) := fun z j hj hz => (hat j hj).keep hz hgl
          have HST := Lib.hid (sp_step y.nd (thr b.ts b.bs y.nd.n) k (by rw [← HM1.out, List.length_map]; exact hlk))
          have HTD : Hid (∀ j (hj : j < lm.length) (h2 : j < (thr b.ts b.bs y.nd.n).length), (thr b.ts b.bs y.nd.n)[j] = lm[j].td) := fun j hj h2 => by
            have h := HM1.out
            have h3 : (lm.map (·.td))[j]'(by rw [List.length_map]; exact hj) = (thr b.ts b.bs y.nd.n)[j] := by simp only [h]
            rw [← h3, List.getElem_map]
          have HTL : Hid ((thr b.ts b.bs y.nd.n).length = lm.length) := by show _ = _; rw [← HM1.out, List.length_map]
          have hdk := HD1.out lm[k] (List.getElem_mem hlk)
          have hrow0 := HATT.out wr k hlk HBr.out
          obtain ⟨x2, hx2⟩ : ∃ x2, x2 = lm[k] := ⟨_, rfl⟩
          have HX2 : Hid (x2 = lm[k]) := hx2
          rw [← hx2] at hdk hrow0
          have HDK : Hid (DeepT W0 W0.heap.size x2 ∧ FitT x2.td) := hdk
          have hrow : wr.rangeAt g (k * 9) [.string x2.td.n, .int .i64 x2.td.z0, .int .i64 x2.td.z1, .int .i64 x2.td.z2, .slice x2.a4 x2.td.ws.length x2.c4, .slice x2.a5 x2.td.bs.length x2.c5, .string x2.td.g, .string x2.td.a, .int .i64 x2.td.r] := fun j u hj => hrow0 j u hj
          clear hv hc1 hat hdk hrow0 hx2
          go_upto_region 11 with fail
          refine wp_region_list ?_
          refine wpList_plain rfl fun K hK => ?_
          go_simp
          refine hK _ _ ?_
          clear hK K
          refine wpList_plain rfl fun K hK => ?_
          go_simp
          refine hK _ _ ?_
          clear hK K
          refine wpList_load_mid rfl 42 (.tmp 40) rfl (g) (k * 9) rfl [.string x2.td.n, .int .i64 x2.td.z0, .int .i64 x2.td.z1, .int .i64 x2.td.z2, .slice x2.a4 x2.td.ws.length x2.c4, .slice x2.a5 x2.td.bs.length x2.c5, .string x2.td.g, .string x2.td.a, .int .i64 x2.td.r] _ (hrow) Tryz.underlying42 rfl rfl ?_
          refine wpList_plain rfl fun K hK => ?_
          go_simp
          refine hK _ _ ?_
          clear hK K
          refine wpList_plain rfl fun K hK => ?_
          go_simp
          refine hK _ _ ?_
          clear hK K
          obtain ⟨th1, hbz, hx1⟩ := one_made wr [.string ⟨#[]⟩, .int .i64 0, .int .i64 0, .int .i64 0, .slice none 0 0, .slice none 0 0, .string ⟨#[]⟩, .string ⟨#[]⟩, .int .i64 0] [.string x2.td.n, .int .i64 x2.td.z0, .int .i64 x2.td.z1, .int .i64 x2.td.z2, .slice x2.a4 x2.td.ws.length x2.c4, .slice x2.a5 x2.td.bs.length x2.c5, .string x2.td.g, .string x2.td.a, .int .i64 x2.td.r] 42 rfl
          refine wpList_store_mid rfl 42 (.tmp 11) (.tmp 41) rfl (wr.heap.size) 0 #[.string x2.td.n, .int .i64 x2.td.z0, .int .i64 x2.td.z1, .int .i64 x2.td.z2, .slice x2.a4 x2.td.ws.length x2.c4, .slice x2.a5 x2.td.bs.length x2.c5, .string x2.td.g, .string x2.td.a, .int .i64 x2.td.r] rfl rfl th1 rfl (all_oneCell_toArray (List.all_eq_true.1 (show List.all ([.string x2.td.n, .int .i64 x2.td.z0, .int .i64 x2.td.z1, .int .i64 x2.td.z2, .slice x2.a4 x2.td.ws.length x2.c4, .slice x2.a5 x2.td.bs.length x2.c5, .string x2.td.g, .string x2.td.a, .int .i64 x2.td.r] : List Value) (fun v => v.oneCell') = true from rfl))) ?_
          rw [show (#[.string x2.td.n, .int .i64 x2.td.z0, .int .i64 x2.td.z1, .int .i64 x2.td.z2, .slice x2.a4 x2.td.ws.length x2.c4, .slice x2.a5 x2.td.bs.length x2.c5, .string x2.td.g, .string x2.td.a, .int .i64 x2.td.r] : Array Value).toList = [.string x2.td.n, .int .i64 x2.td.z0, .int .i64 x2.td.z1, .int .i64 x2.td.z2, .slice x2.a4 x2.td.ws.length x2.c4, .slice x2.a5 x2.td.bs.length x2.c5, .string x2.td.g, .string x2.td.a, .int .i64 x2.td.r] from rfl]
          have HF5 := Lib.hid ((HF4.out.below HBr.out).below hbz)
          have HB5 : Hid (Below zF.heap.size zF ((wr.alloc (.cells #[.string ⟨#[]⟩, .int .i64 0, .int .i64 0, .int .i64 0, .slice none 0 0, .slice none 0 0, .string ⟨#[]⟩, .string ⟨#[]⟩, .int .i64 0] 42)).setCells wr.heap.size 0 [.string x2.td.n, .int .i64 x2.td.z0, .int .i64 x2.td.z1, .int .i64 x2.td.z2, .slice x2.a4 x2.td.ws.length x2.c4, .slice x2.a5 x2.td.bs.length x2.c5, .string x2.td.g, .string x2.td.a, .int .i64 x2.td.r])) := HBr.out.trans (hbz.mono HBr.out.size)
          have HXa := Lib.hid hx1
          clear th1 hrow hbz hx1 HBr HBw
          obtain ⟨zB, hzB⟩ : ∃ q : Nat, q = wr.heap.size := ⟨_, rfl⟩
          rw [← hzB] at HF5 HB5 HXa ⊢
          generalize (wr.alloc (.cells #[.string ⟨#[]⟩, .int .i64 0, .int .i64 0, .int .i64 0, .slice none 0 0, .slice none 0 0, .string ⟨#[]⟩, .string ⟨#[]⟩, .int .i64 0] 42)).setCells zB 0 [.string x2.td.n, .int .i64 x2.td.z0, .int .i64 x2.td.z1, .int .i64 x2.td.z2, .slice x2.a4 x2.td.ws.length x2.c4, .slice x2.a5 x2.td.bs.length x2.c5, .string x2.td.g, .string x2.td.a, .int .i64 x2.td.r] = w5 at *
          clear hzB
          refine wpList_nil ?_
          go_upto_region 12 with fail
          refine wp_region_list ?_
          refine wpList_load_mid rfl 42 (.tmp 11) rfl (zB) (0) rfl [.string x2.td.n, .int .i64 x2.td.z0, .int .i64 x2.td.z1, .int .i64 x2.td.z2, .slice x2.a4 x2.td.ws.length x2.c4, .slice x2.a5 x2.td.bs.length x2.c5, .string x2.td.g, .string x2.td.a, .int .i64 x2.td.r] _ (HXa.out.range 0) Tryz.underlying42 rfl rfl ?_
          refine wpList_load_mid rfl 45 (.tmp 3) rfl (w.heap.size + 1) (0) rfl [.string y.nd.n, .int .i64 y.nd.z0, .int .i64 y.nd.z1, .int .i64 y.nd.z2, .slice y.a2 y.nd.ls.length y.c2, .slice y.a3 y.nd.ts.length y.c3] _ (HF5.out.r.range 0) Tryz.underlying45 rfl rfl ?_
          refine wpList_plain rfl fun K hK => ?_
          go_wp2_with fail
          refine (HSU.out x2 w5 HDK.out.1 HDK.out.2 (HB0F.out.trans (HB5.out.mono HB0F.out.size)) HF5.out.b).mono ?_
          rintro e w6 ⟨rfl, hb⟩
          refine hK _ _ ?_
          clear hK K
          have HF6 := Lib.hid (HF5.out.below hb)
          have HBz : Hid (Below zF.heap.size zF w6) := HB5.out.trans (hb.mono HB5.out.size)
          have HXb := Lib.hid (HXa.out.below hb)
          have HB6 : Hid (Below w.heap.size w w6) := HF6.out.b
          clear hb HF5 HB5 HXa
          refine wpList_plain rfl fun K hK => ?_
          go_simp
          refine hK _ _ ?_
          clear hK K
          refine wpList_nil ?_
          cases hsu : suB x2.td y.nd with
          | false =>
            have HE : Hid (r = false) := by
              rw [HQr.out, HST.out, HTD.out k hlk (by have := HTL.out; omega), ← HX2.out, hsu]
              rfl
            clear hsu HQr HST
            go_wp2
            go_ret
            exact ⟨by rw [HE.out]; rfl, HB6.out⟩
          | true =>
            have HQ2 : Hid (r = (((thr b.ts b.bs y.nd.n).take k).all (fun u => beB x2.td u) && spF y.nd ((thr b.ts b.bs y.nd.n).take (k + 1)) ((thr b.ts b.bs y.nd.n).drop (k + 1)))) := by
              rw [HQr.out, HST.out, HTD.out k hlk (by have := HTL.out; omega), ← HX2.out, hsu]
              rfl
            clear hsu HQr HST
            have sc1 : ¬ n1 = k := by omega
            have sc2 : (k : Int) ≤ (n1 : Int) := by omega
            have sc3 : k ≤ n1 := by omega
            have HJ : Hid (k + (gg + 1) = lm.length) := hkg
            obtain ⟨zG, rfl⟩ : ∃ q, q = w6 := ⟨w6, rfl⟩
            go_wp2
            go_loopg [50] k (fun g2 i wx => ∃ j : Nat, j + g2 = k ∧ i = .int .i64 j ∧ Aside (((thr b.ts b.bs y.nd.n).take j).all (fun u => beB x2.td u) = true) ∧ Aside (Below zG.heap.size zG wx))
            case atStart => exact ⟨0, by omega, rfl, rfl, Below.refl _ _⟩
            case round =>
              obtain ⟨j, hjg, rfl, HQ, HA⟩ := hrel
              have HBj : Hid (Below zG.heap.size zG wr) := HA.out
              have HQj : Hid (((thr b.ts b.bs y.nd.n).take j).all (fun u => beB x2.td u) = true) := HQ.out
              clear HA HQ
              cases gk with
              | zero =>
                obtain rfl : j = k := by omega
                have HQ3 : Hid (r = spF y.nd ((thr b.ts b.bs y.nd.n).take (j + 1)) ((thr b.ts b.bs y.nd.n).drop (j + 1))) := by rw [HQ2.out, HQj.out]; rfl
                have HBE2 : Hid (Below zF.heap.size zF wr) := HBz.out.trans (HBj.out.mono HBz.out.size)
                clear hjg HQ2 HQj
                go_wp2
                go_roundg gg
                case measure => omega
                case rel => exact ⟨j + 1, by have := HJ.out; omega, by simp, HQ3.out, HBE2.out⟩
              | succ g2 =>
                have hlj : j < k := by omega
                have hlj2 : j < lm.length := by omega
                have t5 : (j : Int) < (k : Int) := by omega
                have t6 : IntKind.i64.wrap ((j : Int) + 1) = (j : Int) + 1 := by rw [IntKind.wrap_i64]; have := HLL.out; omega
                have t7 : (0 : Int) ≤ (j : Int) := by omega
                obtain ⟨x3, hx3⟩ : ∃ x3, x3 = lm[j] := ⟨_, rfl⟩
                have HX3 : Hid (x3 = lm[j]) := hx3
                have hrow0 := HATT.out wr j hlj2 (HBz.out.trans (HBj.out.mono HBz.out.size))
                rw [← hx3] at hrow0
                have hrow : wr.rangeAt g (j * 9) [.string x3.td.n, .int .i64 x3.td.z0, .int .i64 x3.td.z1, .int .i64 x3.td.z2, .slice x3.a4 x3.td.ws.length x3.c4, .slice x3.a5 x3.td.bs.length x3.c5, .string x3.td.g, .string x3.td.a, .int .i64 x3.td.r] := fun j u hj => hrow0 j u hj
                have HXB := Lib.hid (HXb.out.below HBj.out)
                have HSN : Hid (((thr b.ts b.bs y.nd.n).take (j + 1)).all (fun u => beB x2.td u) = beB x2.td x3.td) := by
                  have h2 : j < (thr b.ts b.bs y.nd.n).length := by have := HTL.out; omega
                  show _ = _
                  rw [List.take_succ_eq_append_getElem h2, List.all_append, HQj.out, HTD.out j hlj2 h2, ← HX3.out]
                  simp
                clear hx3 hrow0
                go_upto_region 16 with fail
                refine wp_region_list ?_
                refine wpList_plain rfl fun K hK => ?_
                go_simp
                refine hK _ _ ?_
                clear hK K
                refine wpList_load_mid rfl 42 (.tmp 52) rfl (g) (j * 9) rfl [.string x3.td.n, .int .i64 x3.td.z0, .int .i64 x3.td.z1, .int .i64 x3.td.z2, .slice x3.a4 x3.td.ws.length x3.c4, .slice x3.a5 x3.td.bs.length x3.c5, .string x3.td.g, .string x3.td.a, .int .i64 x3.td.r] _ (hrow) Tryz.underlying42 rfl rfl ?_
                refine wpList_plain rfl fun K hK => ?_
                go_simp
                refine hK _ _ ?_
                clear hK K
                obtain ⟨th1, hbz, hx1⟩ := one_made wr [.string ⟨#[]⟩, .int .i64 0, .int .i64 0, .int .i64 0, .slice none 0 0, .slice none 0 0, .string ⟨#[]⟩, .string ⟨#[]⟩, .int .i64 0] [.string x3.td.n, .int .i64 x3.td.z0, .int .i64 x3.td.z1, .int .i64 x3.td.z2, .slice x3.a4 x3.td.ws.length x3.c4, .slice x3.a5 x3.td.bs.length x3.c5, .string x3.td.g, .string x3.td.a, .int .i64 x3.td.r] 42 rfl
                refine wpList_store_mid rfl 42 (.tmp 13) (.tmp 53) rfl (wr.heap.size) 0 #[.string x3.td.n, .int .i64 x3.td.z0, .int .i64 x3.td.z1, .int .i64 x3.td.z2, .slice x3.a4 x3.td.ws.length x3.c4, .slice x3.a5 x3.td.bs.length x3.c5, .string x3.td.g, .string x3.td.a, .int .i64 x3.td.r] rfl rfl th1 rfl (all_oneCell_toArray (List.all_eq_true.1 (show List.all ([.string x3.td.n, .int .i64 x3.td.z0, .int .i64 x3.td.z1, .int .i64 x3.td.z2, .slice x3.a4 x3.td.ws.length x3.c4, .slice x3.a5 x3.td.bs.length x3.c5, .string x3.td.g, .string x3.td.a, .int .i64 x3.td.r] : List Value) (fun v => v.oneCell') = true from rfl))) ?_
                rw [show (#[.string x3.td.n, .int .i64 x3.td.z0, .int .i64 x3.td.z1, .int .i64 x3.td.z2, .slice x3.a4 x3.td.ws.length x3.c4, .slice x3.a5 x3.td.bs.length x3.c5, .string x3.td.g, .string x3.td.a, .int .i64 x3.td.r] : Array Value).toList = [.string x3.td.n, .int .i64 x3.td.z0, .int .i64 x3.td.z1, .int .i64 x3.td.z2, .slice x3.a4 x3.td.ws.length x3.c4, .slice x3.a5 x3.td.bs.length x3.c5, .string x3.td.g, .string x3.td.a, .int .i64 x3.td.r] from rfl]
                have HB7 : Hid (Below zG.heap.size zG ((wr.alloc (.cells #[.string ⟨#[]⟩, .int .i64 0, .int .i64 0, .int .i64 0, .slice none 0 0, .slice none 0 0, .string ⟨#[]⟩, .string ⟨#[]⟩, .int .i64 0] 42)).setCells wr.heap.size 0 [.string x3.td.n, .int .i64 x3.td.z0, .int .i64 x3.td.z1, .int .i64 x3.td.z2, .slice x3.a4 x3.td.ws.length x3.c4, .slice x3.a5 x3.td.bs.length x3.c5, .string x3.td.g, .string x3.td.a, .int .i64 x3.td.r])) := HBj.out.trans (hbz.mono HBj.out.size)
                have HXc := Lib.hid (HXB.out.below hbz)
                have HXd := Lib.hid hx1
                clear th1 hrow hbz hx1 HBj HXB
                obtain ⟨zC, hzC⟩ : ∃ q : Nat, q = wr.heap.size := ⟨_, rfl⟩
                rw [← hzC] at HB7 HXc HXd ⊢
                generalize (wr.alloc (.cells #[.string ⟨#[]⟩, .int .i64 0, .int .i64 0, .int .i64 0, .slice none 0 0, .slice none 0 0, .string ⟨#[]⟩, .string ⟨#[]⟩, .int .i64 0] 42)).setCells zC 0 [.string x3.td.n, .int .i64 x3.td.z0, .int .i64 x3.td.z1, .int .i64 x3.td.z2, .slice x3.a4 x3.td.ws.length x3.c4, .slice x3.a5 x3.td.bs.length x3.c5, .string x3.td.g, .string x3.td.a, .int .i64 x3.td.r] = w7 at *
                clear hzC
                refine wpList_nil ?_
                go_upto_region 17 with fail
                refine wp_region_list ?_
                refine wpList_load_mid rfl 42 (.tmp 11) rfl (zB) (0) rfl [.string x2.td.n, .int .i64 x2.td.z0, .int .i64 x2.td.z1, .int .i64 x2.td.z2, .slice x2.a4 x2.td.ws.length x2.c4, .slice x2.a5 x2.td.bs.length x2.c5, .string x2.td.g, .string x2.td.a, .int .i64 x2.td.r] _ (HXc.out.range 0) Tryz.underlying42 rfl rfl ?_
                refine wpList_load_mid rfl 42 (.tmp 13) rfl (zC) (0) rfl [.string x3.td.n, .int .i64 x3.td.z0, .int .i64 x3.td.z1, .int .i64 x3.td.z2, .slice x3.a4 x3.td.ws.length x3.c4, .slice x3.a5 x3.td.bs.length x3.c5, .string x3.td.g, .string x3.td.a, .int .i64 x3.td.r] _ (HXd.out.range 0) Tryz.underlying42 rfl rfl ?_
                refine wpList_plain rfl fun K hK => ?_
                go_wp2_with fail
                refine (HBE.out x2 x3 w7).mono ?_
                rintro e w8 ⟨rfl, hb⟩
                refine hK _ _ ?_
                clear hK K
                have HBn : Hid (Below zG.heap.size zG w8) := HB7.out.trans (hb.mono HB7.out.size)
                have HB8 : Hid (Below w.heap.size w w8) := HB6.out.trans (HBn.out.mono HB6.out.size)
                clear hb HB7 HXc HXd
                refine wpList_plain rfl fun K hK => ?_
                go_simp
                refine hK _ _ ?_
                clear hK K
                refine wpList_nil ?_
                cases hbe : beB x2.td x3.td with
                | false =>
                  have HE : Hid (r = false) := by
                    have h2 : j < (thr b.ts b.bs y.nd.n).length := by have := HTL.out; omega
                    show r = false
                    rw [HQ2.out, all_false _ k j (by omega) h2 (by rw [HTD.out j hlj2 h2, ← HX3.out]; exact hbe)]
                    rfl
                  clear hbe HQ2 HSN
                  go_wp2
                  go_ret
                  exact ⟨by rw [HE.out]; rfl, HB8.out⟩
                | true =>
                  have HQN : Hid (((thr b.ts b.bs y.nd.n).take (j + 1)).all (fun u => beB x2.td u) = true) := by rw [HSN.out]; exact hbe
                  clear hbe HSN
                  go_wp2
                  go_roundg g2
                  case measure => omega
                  case rel => exact ⟨j + 1, by omega, by simp, HQN.out, HBn.out⟩
    | succ gg =>
      have HYr := Lib.hid (HY.out.below HBr.out)
      have HBw : Hid (Below w.heap.size w wr) := HF3.out.b.trans (HBr.out.mono HF3.out.b.size)
      rcases (by omega : m = 0 ∨ m = 1 ∨ m = 2) with rfl | rfl | rfl
      · have i0 := ar0 y.nd.z0 y.nd.z1 y.nd.z2
        have c0 : wr.cell? ⟨zA, 0, none⟩ = some (.int .i64 s0) := HYr.out.cell 0
        by_cases hc : y.nd.z0 < s0
        · have HE : Hid (r = false) := by show r = false; rw [HNB.out, decide_eq_false (p := s0 ≤ y.nd.z0) (by omega)]; simp
          clear HNB
          go_wp2
          go_ret
          exact ⟨by rw [HE.out]; rfl, HBw.out⟩
        · have HC : Hid (s0 ≤ y.nd.z0) := by show _ ≤ _; omega
          go_wp2
          go_roundg gg
          case measure => omega
          case rel => exact ⟨1, by omega, rfl, ⟨fun h => HC.out, fun h => by omega, fun h => by omega⟩, HBr.out⟩
      · have i0 := ar1 y.nd.z0 y.nd.z1 y.nd.z2
        have c0 : wr.cell? ⟨zA, 1, none⟩ = some (.int .i64 s1) := HYr.out.cell 1
        by_cases hc : y.nd.z1 < s1
        · have HE : Hid (r = false) := by show r = false; rw [HNB.out, decide_eq_false (p := s1 ≤ y.nd.z1) (by omega)]; simp
          clear HNB
          go_wp2
          go_ret
          exact ⟨by rw [HE.out]; rfl, HBw.out⟩
        · have HC : Hid (s1 ≤ y.nd.z1) := by show _ ≤ _; omega
          go_wp2
          go_roundg gg
          case measure => omega
          case rel => exact ⟨2, by omega, rfl, ⟨fun h => HQr.out.1 (by omega), fun h => HC.out, fun h => by omega⟩, HBr.out⟩
      · have i0 := ar2 y.nd.z0 y.nd.z1 y.nd.z2
        have c0 : wr.cell? ⟨zA, 2, none⟩ = some (.int .i64 s2) := HYr.out.cell 2
        by_cases hc : y.nd.z2 < s2
        · have HE : Hid (r = false) := by show r = false; rw [HNB.out, decide_eq_false (p := s2 ≤ y.nd.z2) (by omega)]; simp
          clear HNB
          go_wp2
          go_ret
          exact ⟨by rw [HE.out]; rfl, HBw.out⟩
        · have HC : Hid (s2 ≤ y.nd.z2) := by show _ ≤ _; omega
          go_wp2
          go_roundg gg
          case measure => omega
          case rel => exact ⟨3, by omega, rfl, ⟨fun h => HQr.out.1 (by omega), fun h => HQr.out.2.1 (by omega), fun h => HC.out⟩, HBr.out⟩
end Bo
end Go.Proofs.YthbmnkeigmbbdaaGreat
