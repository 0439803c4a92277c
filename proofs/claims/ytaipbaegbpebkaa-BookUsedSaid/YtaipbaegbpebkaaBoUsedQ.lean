/-
  book.Used: WHATEVER THE BOOK.
-/
import Derived.Test.YtaipbaegbpebkaaBgZ
namespace Go.Proofs.Ytaipbaegbpebkaa
open Go.RowKit Go.Lib
namespace Bo
open Rw
set_option linter.unusedVariables false
/-- What is used of a node, asked of whatever book. -/
def usF (b : Bk) (v : ByteArray) : Nat := if chkB b = true then (if hsN b.ns v = true then 0 else 6) else 10
def usV (b : Bk) (v : ByteArray) (x : Int) : Int := if usF b v = 0 then x else 0
set_option maxRecDepth 100000 in
set_option maxHeartbeats 4000000 in
theorem usedq_no (b : Bk) (vn vt vb : Value) (v : ByteArray) (w : World) (hB : Books w w.heap.size vn vt vb b) (hc : chkB b = false) : Calls Try.prog 5 #[.agg #[vn, vt, vb, .int .u64 (b.fe : Nat)], .string v] w fun e w' => e = .returned (.tuple #[.agg #[.int .i64 0, .int .i64 0, .int .i64 0], .int .i64 10]) ∧ Below w.heap.size w w' := by
  obtain ⟨W0, hW0⟩ : ∃ W0, W0 = (w.alloc (.cells #[vn, vt, vb, .int .u64 (b.fe : Nat)] 27)).alloc (.cells #[.int .i64 0, .int .i64 0, .int .i64 0] 29) := ⟨_, rfl⟩
  have hf0 : Fr2 w W0 [vn, vt, vb, .int .u64 (b.fe : Nat)] [.int .i64 0, .int .i64 0, .int .i64 0] := by rw [hW0]; exact Fr2.made w _ _ _ _
  have HCK : Hid (Calls Try.prog 8 #[.agg #[vn, vt, vb, .int .u64 (b.fe : Nat)]] W0 fun e w' => e = .returned (.int .i64 10) ∧ Below W0.heap.size W0 w') := (check_any b vn vt vb W0 (hB.on hf0.b)).mono fun e w' ⟨he, hb⟩ => ⟨by rw [hc] at he; exact he, hb⟩
  obtain ⟨an, cn, hvn⟩ := hB.hn.slice
  obtain ⟨at', ct, hvt⟩ := hB.ht.slice
  obtain ⟨ab, cb, hvb⟩ := hB.hb.slice
  subst hvn hvt hvb
  have HW := Lib.hid hW0
  have HF0 : Hid (Fr2 w W0 [.slice an b.ns.length cn, .slice at' b.ts.length ct, .slice ab b.bs.length cb, .int .u64 (b.fe : Nat)] [.int .i64 0, .int .i64 0, .int .i64 0]) := hf0
  clear hW0 hf0 hB hc
  go_enter Try.func5, Try.ntmps5
  go_upto_region 1 with fail
  rw [← HW.out]
  have b0 : W0.cell? ⟨w.heap.size, 0, none⟩ = some (.slice an b.ns.length cn) := HF0.out.p.cell 0
  have b1 : W0.cell? ⟨w.heap.size, 1, none⟩ = some (.slice at' b.ts.length ct) := HF0.out.p.cell 1
  have b2 : W0.cell? ⟨w.heap.size, 2, none⟩ = some (.slice ab b.bs.length cb) := HF0.out.p.cell 2
  have b3 : W0.cell? ⟨w.heap.size, 3, none⟩ = some (.int .u64 (b.fe : Nat)) := HF0.out.p.cell 3
  go_wp2_with fail
  refine HCK.out.mono ?_
  rintro e w1 ⟨rfl, hb⟩
  have HF1 : Hid (Fr2 w w1 [.slice an b.ns.length cn, .slice at' b.ts.length ct, .slice ab b.bs.length cb, .int .u64 (b.fe : Nat)] [.int .i64 0, .int .i64 0, .int .i64 0]) := HF0.out.below hb
  clear hb b0 b1 b2 b3
  go_upto_region 3 with fail
  refine wp_region_list ?_
  refine wpList_plain rfl fun K hK => ?_
  go_simp
  refine hK _ _ ?_
  clear hK K
  refine wpList_plain rfl fun K hK => ?_
  go_simp
  refine hK _ _ ?_
  clear hK K
  have hthR := HF1.out.r.there 3 rfl
  refine wpList_store_mid rfl 29 (.tmp 4) (.tmp 13) rfl (w.heap.size + 1) 0 #[.int .i64 0, .int .i64 0, .int .i64 0] rfl rfl hthR rfl (all_oneCell_toArray (List.all_eq_true.1 (show List.all ([.int .i64 0, .int .i64 0, .int .i64 0] : List Value) (fun v => v.oneCell') = true from rfl))) ?_
  rw [show (#[.int .i64 0, .int .i64 0, .int .i64 0] : Array Value).toList = [.int .i64 0, .int .i64 0, .int .i64 0] from rfl]
  have HR1 : Hid (Fr2 w (w1.setCells (w.heap.size + 1) 0 [.int .i64 0, .int .i64 0, .int .i64 0]) [.slice an b.ns.length cn, .slice at' b.ts.length ct, .slice ab b.bs.length cb, .int .u64 (b.fe : Nat)] [.int .i64 0, .int .i64 0, .int .i64 0]) := HF1.out.setR [.int .i64 0, .int .i64 0, .int .i64 0] rfl
  clear hthR
  generalize w1.setCells (w.heap.size + 1) 0 [.int .i64 0, .int .i64 0, .int .i64 0] = z1 at *
  refine wpList_plain rfl fun K hK => ?_
  go_simp
  refine hK _ _ ?_
  clear hK K
  refine wpList_nil ?_
  go_wp2
  exact Hd.bodyPost_bx2 rfl (w.heap.size + 1) [.int .i64 0, .int .i64 0, .int .i64 0] _ rfl rfl HR1.out.r Try.underlying29 rfl rfl (⟨rfl, HR1.out.b⟩)
set_option maxRecDepth 100000 in
set_option maxHeartbeats 4000000 in
theorem usedq_none (b : Bk) (vn vt vb : Value) (v : ByteArray) (w : World) (hB : Books w w.heap.size vn vt vb b) (hc : chkB b = true) (hh : hsN b.ns v = false) : Calls Try.prog 5 #[.agg #[vn, vt, vb, .int .u64 (b.fe : Nat)], .string v] w fun e w' => e = .returned (.tuple #[.agg #[.int .i64 0, .int .i64 0, .int .i64 0], .int .i64 6]) ∧ Below w.heap.size w w' := by
  obtain ⟨W0, hW0⟩ : ∃ W0, W0 = (w.alloc (.cells #[vn, vt, vb, .int .u64 (b.fe : Nat)] 27)).alloc (.cells #[.int .i64 0, .int .i64 0, .int .i64 0] 29) := ⟨_, rfl⟩
  have hf0 : Fr2 w W0 [vn, vt, vb, .int .u64 (b.fe : Nat)] [.int .i64 0, .int .i64 0, .int .i64 0] := by rw [hW0]; exact Fr2.made w _ _ _ _
  have HCK : Hid (Calls Try.prog 8 #[.agg #[vn, vt, vb, .int .u64 (b.fe : Nat)]] W0 fun e w' => e = .returned (.int .i64 0) ∧ Below W0.heap.size W0 w') := (check_any b vn vt vb W0 (hB.on hf0.b)).mono fun e w' ⟨he, hb⟩ => ⟨by rw [hc] at he; exact he, hb⟩
  have HFI : Hid (∀ z, Hid (Below w.heap.size w z) → Calls Try.prog 9 #[vn, .func (.func 10) #[] #[], .string v] z fun e w' => ∃ i : Nat, e = .returned (.tuple #[.int .i64 (i : Nat), .bool (hsN b.ns v)]) ∧ Below z.heap.size z w') := fun z hz => by
    obtain ⟨m, hm, hsm, -⟩ := hB.hn
    have hkm : m.map (·.nd.n) = b.ns.map (·.n) := by rw [hm, List.map_map]; rfl
    refine (find_n vn m v z (hsm.on hz.out) (by rw [hkm]; exact (chk_lists hc).rn)).mono ?_
    rintro e w' ⟨he, hb⟩
    unfold FoundN at he
    rw [hkm] at he
    exact ⟨_, he, hb⟩
  rw [hh] at HFI
  obtain ⟨an, cn, hvn⟩ := hB.hn.slice
  obtain ⟨at', ct, hvt⟩ := hB.ht.slice
  obtain ⟨ab, cb, hvb⟩ := hB.hb.slice
  subst hvn hvt hvb
  have HW := Lib.hid hW0
  have HF0 : Hid (Fr2 w W0 [.slice an b.ns.length cn, .slice at' b.ts.length ct, .slice ab b.bs.length cb, .int .u64 (b.fe : Nat)] [.int .i64 0, .int .i64 0, .int .i64 0]) := hf0
  clear hW0 hf0 hB hc
  clear hh
  go_enter Try.func5, Try.ntmps5
  go_upto_region 1 with fail
  rw [← HW.out]
  have b0 : W0.cell? ⟨w.heap.size, 0, none⟩ = some (.slice an b.ns.length cn) := HF0.out.p.cell 0
  have b1 : W0.cell? ⟨w.heap.size, 1, none⟩ = some (.slice at' b.ts.length ct) := HF0.out.p.cell 1
  have b2 : W0.cell? ⟨w.heap.size, 2, none⟩ = some (.slice ab b.bs.length cb) := HF0.out.p.cell 2
  have b3 : W0.cell? ⟨w.heap.size, 3, none⟩ = some (.int .u64 (b.fe : Nat)) := HF0.out.p.cell 3
  go_wp2_with fail
  refine HCK.out.mono ?_
  rintro e w1 ⟨rfl, hb⟩
  have HF1 : Hid (Fr2 w w1 [.slice an b.ns.length cn, .slice at' b.ts.length ct, .slice ab b.bs.length cb, .int .u64 (b.fe : Nat)] [.int .i64 0, .int .i64 0, .int .i64 0]) := HF0.out.below hb
  clear hb b0 b1 b2 b3
  have d0 : w1.cell? ⟨w.heap.size, 0, none⟩ = some (.slice an b.ns.length cn) := HF1.out.p.cell 0
  go_wp2_with fail
  refine (HFI.out _ HF1.out.b).mono ?_
  rintro e w2 ⟨i, rfl, hb⟩
  have HF2 : Hid (Fr2 w w2 [.slice an b.ns.length cn, .slice at' b.ts.length ct, .slice ab b.bs.length cb, .int .u64 (b.fe : Nat)] [.int .i64 0, .int .i64 0, .int .i64 0]) := HF1.out.below hb
  clear hb d0 HF1
  go_upto_region 6 with fail
  refine wp_region_list ?_
  refine wpList_plain rfl fun K hK => ?_
  go_simp
  refine hK _ _ ?_
  clear hK K
  have hthR := HF2.out.r.there 3 rfl
  refine wpList_store_mid rfl 29 (.tmp 4) (.tmp 24) rfl (w.heap.size + 1) 0 #[.int .i64 0, .int .i64 0, .int .i64 0] rfl rfl hthR rfl (all_oneCell_toArray (List.all_eq_true.1 (show List.all ([.int .i64 0, .int .i64 0, .int .i64 0] : List Value) (fun v => v.oneCell') = true from rfl))) ?_
  rw [show (#[.int .i64 0, .int .i64 0, .int .i64 0] : Array Value).toList = [.int .i64 0, .int .i64 0, .int .i64 0] from rfl]
  have HR1 : Hid (Fr2 w (w2.setCells (w.heap.size + 1) 0 [.int .i64 0, .int .i64 0, .int .i64 0]) [.slice an b.ns.length cn, .slice at' b.ts.length ct, .slice ab b.bs.length cb, .int .u64 (b.fe : Nat)] [.int .i64 0, .int .i64 0, .int .i64 0]) := HF2.out.setR [.int .i64 0, .int .i64 0, .int .i64 0] rfl
  clear hthR
  generalize w2.setCells (w.heap.size + 1) 0 [.int .i64 0, .int .i64 0, .int .i64 0] = z1 at *
  refine wpList_plain rfl fun K hK => ?_
  go_simp
  refine hK _ _ ?_
  clear hK K
  refine wpList_nil ?_
  go_wp2
  exact Hd.bodyPost_bx2 rfl (w.heap.size + 1) [.int .i64 0, .int .i64 0, .int .i64 0] _ rfl rfl HR1.out.r Try.underlying29 rfl rfl (⟨rfl, HR1.out.b⟩)
set_option maxRecDepth 100000 in
set_option maxHeartbeats 4000000 in
theorem usedq_ok (b : Bk) (vn vt vb : Value) (v : ByteArray) (w : World) (hB : Books w w.heap.size vn vt vb b) (hc : chkB b = true) (hh : hsN b.ns v = true) : Calls Try.prog 5 #[.agg #[vn, vt, vb, .int .u64 (b.fe : Nat)], .string v] w fun e w' => e = .returned (.tuple #[.agg #[.int .i64 (us0 b v), .int .i64 (us1 b v), .int .i64 (us2 b v)], .int .i64 0]) ∧ Below w.heap.size w w' := by
  obtain ⟨W0, hW0⟩ : ∃ W0, W0 = (w.alloc (.cells #[vn, vt, vb, .int .u64 (b.fe : Nat)] 27)).alloc (.cells #[.int .i64 0, .int .i64 0, .int .i64 0] 29) := ⟨_, rfl⟩
  have hf0 : Fr2 w W0 [vn, vt, vb, .int .u64 (b.fe : Nat)] [.int .i64 0, .int .i64 0, .int .i64 0] := by rw [hW0]; exact Fr2.made w _ _ _ _
  have HCK : Hid (Calls Try.prog 8 #[.agg #[vn, vt, vb, .int .u64 (b.fe : Nat)]] W0 fun e w' => e = .returned (.int .i64 0) ∧ Below W0.heap.size W0 w') := (check_any b vn vt vb W0 (hB.on hf0.b)).mono fun e w' ⟨he, hb⟩ => ⟨by rw [hc] at he; exact he, hb⟩
  have HFI : Hid (∀ z, Hid (Below w.heap.size w z) → Calls Try.prog 9 #[vn, .func (.func 10) #[] #[], .string v] z fun e w' => ∃ i : Nat, e = .returned (.tuple #[.int .i64 (i : Nat), .bool (hsN b.ns v)]) ∧ Below z.heap.size z w') := fun z hz => by
    obtain ⟨m, hm, hsm, -⟩ := hB.hn
    have hkm : m.map (·.nd.n) = b.ns.map (·.n) := by rw [hm, List.map_map]; rfl
    refine (find_n vn m v z (hsm.on hz.out) (by rw [hkm]; exact (chk_lists hc).rn)).mono ?_
    rintro e w' ⟨he, hb⟩
    unfold FoundN at he
    rw [hkm] at he
    exact ⟨_, he, hb⟩
  rw [hh] at HFI
  have HUS : Hid (∀ z, Hid (Below w.heap.size w z) → Calls Try.prog 11 #[.agg #[vn, vt, vb, .int .u64 (b.fe : Nat)], .string v] z fun e w' => e = .returned (.agg #[.int .i64 (us0 b v), .int .i64 (us1 b v), .int .i64 (us2 b v)]) ∧ Below z.heap.size z w') := fun z hz => used_any b vn vt vb v z (hB.on hz.out) (chk_lists hc)
  obtain ⟨an, cn, hvn⟩ := hB.hn.slice
  obtain ⟨at', ct, hvt⟩ := hB.ht.slice
  obtain ⟨ab, cb, hvb⟩ := hB.hb.slice
  subst hvn hvt hvb
  have HW := Lib.hid hW0
  have HF0 : Hid (Fr2 w W0 [.slice an b.ns.length cn, .slice at' b.ts.length ct, .slice ab b.bs.length cb, .int .u64 (b.fe : Nat)] [.int .i64 0, .int .i64 0, .int .i64 0]) := hf0
  clear hW0 hf0 hB hc
  clear hh
  generalize us0 b v = s0 at *
  generalize us1 b v = s1 at *
  generalize us2 b v = s2 at *
  go_enter Try.func5, Try.ntmps5
  go_upto_region 1 with fail
  rw [← HW.out]
  have b0 : W0.cell? ⟨w.heap.size, 0, none⟩ = some (.slice an b.ns.length cn) := HF0.out.p.cell 0
  have b1 : W0.cell? ⟨w.heap.size, 1, none⟩ = some (.slice at' b.ts.length ct) := HF0.out.p.cell 1
  have b2 : W0.cell? ⟨w.heap.size, 2, none⟩ = some (.slice ab b.bs.length cb) := HF0.out.p.cell 2
  have b3 : W0.cell? ⟨w.heap.size, 3, none⟩ = some (.int .u64 (b.fe : Nat)) := HF0.out.p.cell 3
  go_wp2_with fail
  refine HCK.out.mono ?_
  rintro e w1 ⟨rfl, hb⟩
  have HF1 : Hid (Fr2 w w1 [.slice an b.ns.length cn, .slice at' b.ts.length ct, .slice ab b.bs.length cb, .int .u64 (b.fe : Nat)] [.int .i64 0, .int .i64 0, .int .i64 0]) := HF0.out.below hb
  clear hb b0 b1 b2 b3
  have d0 : w1.cell? ⟨w.heap.size, 0, none⟩ = some (.slice an b.ns.length cn) := HF1.out.p.cell 0
  go_wp2_with fail
  refine (HFI.out _ HF1.out.b).mono ?_
  rintro e w2 ⟨i, rfl, hb⟩
  have HF2 : Hid (Fr2 w w2 [.slice an b.ns.length cn, .slice at' b.ts.length ct, .slice ab b.bs.length cb, .int .u64 (b.fe : Nat)] [.int .i64 0, .int .i64 0, .int .i64 0]) := HF1.out.below hb
  clear hb d0 HF1
  go_upto_region 7 with fail
  refine wp_region_list ?_
  refine wpList_load_mid rfl 27 (.tmp 2) rfl (w.heap.size) (0) rfl [.slice an b.ns.length cn, .slice at' b.ts.length ct, .slice ab b.bs.length cb, .int .u64 (b.fe : Nat)] _ (HF2.out.p.range 0) Try.underlying27 rfl rfl ?_
  refine wpList_plain rfl fun K hK => ?_
  go_simp
  refine hK _ _ ?_
  clear hK K
  refine wpList_plain rfl fun K hK => ?_
  go_wp2_with fail
  refine (HUS.out w2 HF2.out.b).mono ?_
  rintro e w3 ⟨rfl, hb⟩
  have HF3 : Hid (Fr2 w w3 [.slice an b.ns.length cn, .slice at' b.ts.length ct, .slice ab b.bs.length cb, .int .u64 (b.fe : Nat)] [.int .i64 0, .int .i64 0, .int .i64 0]) := HF2.out.below hb
  clear hb HF2
  refine hK _ _ ?_
  clear hK K
  have hthR := HF3.out.r.there 3 rfl
  refine wpList_store_mid rfl 29 (.tmp 4) (.tmp 27) rfl (w.heap.size + 1) 0 #[.int .i64 s0, .int .i64 s1, .int .i64 s2] rfl rfl hthR rfl (all_oneCell_toArray (List.all_eq_true.1 (show List.all ([.int .i64 s0, .int .i64 s1, .int .i64 s2] : List Value) (fun v => v.oneCell') = true from rfl))) ?_
  rw [show (#[.int .i64 s0, .int .i64 s1, .int .i64 s2] : Array Value).toList = [.int .i64 s0, .int .i64 s1, .int .i64 s2] from rfl]
  have HR1 : Hid (Fr2 w (w3.setCells (w.heap.size + 1) 0 [.int .i64 s0, .int .i64 s1, .int .i64 s2]) [.slice an b.ns.length cn, .slice at' b.ts.length ct, .slice ab b.bs.length cb, .int .u64 (b.fe : Nat)] [.int .i64 s0, .int .i64 s1, .int .i64 s2]) := HF3.out.setR [.int .i64 s0, .int .i64 s1, .int .i64 s2] rfl
  clear hthR
  generalize w3.setCells (w.heap.size + 1) 0 [.int .i64 s0, .int .i64 s1, .int .i64 s2] = z1 at *
  refine wpList_plain rfl fun K hK => ?_
  go_simp
  refine hK _ _ ?_
  clear hK K
  refine wpList_nil ?_
  go_wp2
  exact Hd.bodyPost_bx2 rfl (w.heap.size + 1) [.int .i64 s0, .int .i64 s1, .int .i64 s2] _ rfl rfl HR1.out.r Try.underlying29 rfl rfl (⟨rfl, HR1.out.b⟩)
theorem usedq_any (b : Bk) (vn vt vb : Value) (v : ByteArray) (w : World) (hB : Books w w.heap.size vn vt vb b) : Calls Try.prog 5 #[.agg #[vn, vt, vb, .int .u64 (b.fe : Nat)], .string v] w fun e w' => e = .returned (.tuple #[.agg #[.int .i64 (usV b v (us0 b v)), .int .i64 (usV b v (us1 b v)), .int .i64 (usV b v (us2 b v))], .int .i64 (usF b v : Nat)]) ∧ Below w.heap.size w w' := by
  unfold usV usF
  cases hc : chkB b
  · exact usedq_no b vn vt vb v w hB hc
  · cases hh : hsN b.ns v
    · exact usedq_none b vn vt vb v w hB hc hh
    · exact usedq_ok b vn vt vb v w hB hc hh
end Bo
end Go.Proofs.Ytaipbaegbpebkaa
