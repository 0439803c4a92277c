/-
  gaffertop.TopFull.
-/
import Derived.Test.YthbmnkeigmbbdaaGreatTfP
import Derived.Test.YthbmnkeigmbbdaaGreatScPlan
import Derived.Test.YthbmnkeigmbbdaaGreatDk2
namespace Go.Proofs.YthbmnkeigmbbdaaGreat
open Go.RowKit Go.Lib
namespace Bo
open Rw
set_option linter.unusedVariables false
def NodesArg (w : World) (v : Value) (m : List NdM) : Prop := Sl w 0 w.heap.size v m ∧ (∀ x ∈ m, DeepN w w.heap.size x ∧ FitN x.nd) ∧ m.length * 88 ≤ 140737488355328
def TasksArg (w : World) (v : Value) (m : List TdM) : Prop := Sl w 0 w.heap.size v m ∧ (∀ x ∈ m, DeepT w w.heap.size x ∧ FitT x.td) ∧ m.length * 128 ≤ 140737488355328
section
open Go.WideShapes Go.ChangeShapes Rg
variable {H : Type} {enc : TypeId × Value → H} {w : World} {v : Value} {d : DataW H} {ps : List MemPlace} {base : Nat}
set_option maxRecDepth 100000 in
theorem nodes_of2 (ho : Value.okWide Tryz.prog w .any base 22 v) (hk : DataW.Trod enc Tryz.prog w 0 (fun _ => true) true 22 v d ps) (hw : ∀ n ∈ d.weights Tryz.prog 22, n ≤ reachBytes) : ∃ l, NodesArg w v l := by
  have ht := Tryz.underlying22
  obtain ⟨a0, len0, cap0, rfl⟩ := okWide_slice ht ho
  obtain ⟨fuel, hf⟩ := hk
  obtain ⟨a, c, l, h1, h2, h3, h4⟩ := rows_of (R := fun x : NdM => DeepN w w.heap.size x ∧ FitN x.nd) (B := 88) ht rfl rfl (by omega) (fun n cs y h hw => node_sl h hw) hf hw
  simp [Value.cells] at h1
  obtain ⟨rfl, rfl, rfl⟩ := h1
  exact ⟨l, h2, h3, h4⟩
set_option maxRecDepth 100000 in
theorem tasks_of2 (ho : Value.okWide Tryz.prog w .any base 23 v) (hk : DataW.Trod enc Tryz.prog w 0 (fun _ => true) true 23 v d ps) (hw : ∀ n ∈ d.weights Tryz.prog 23, n ≤ reachBytes) : ∃ l, TasksArg w v l := by
  have ht := Tryz.underlying23
  obtain ⟨a0, len0, cap0, rfl⟩ := okWide_slice ht ho
  obtain ⟨fuel, hf⟩ := hk
  obtain ⟨a, c, l, h1, h2, h3, h4⟩ := rows_of (R := fun x : TdM => DeepT w w.heap.size x ∧ FitT x.td) (B := 128) ht rfl rfl (by omega) (fun n cs y h hw => task_sl h hw) hf hw
  simp [Value.cells] at h1
  obtain ⟨rfl, rfl, rfl⟩ := h1
  exact ⟨l, h2, h3, h4⟩
end
set_option maxRecDepth 100000 in
set_option maxHeartbeats 40000000 in
theorem tfull_law (mn : List NdM) (mt : List TdM) (vn0 vt0 : Value) (w : World) (hn : NodesArg w vn0 mn) (ht : TasksArg w vt0 mt) : Calls Tryz.prog 10 #[vn0, vt0] w fun e w' => e = .returned (.bool true) ∧ Below w.heap.size w w' := by
  obtain ⟨i0, hi, hq0, hq1, hq2⟩ := info_parts info_ld
  obtain ⟨hsn, hdn, hln⟩ := hn
  obtain ⟨hst, hdt, hlt⟩ := ht
  obtain ⟨an, cn, rfl, -, -, -, hrn⟩ := hsn
  obtain ⟨at', ct, rfl, -, -, -, hrt⟩ := hst
  have HRN := Lib.hid hrn
  have HRT := Lib.hid hrt
  have HDN : Hid (∀ x ∈ mn, DeepN w w.heap.size x ∧ FitN x.nd) := hdn
  have HDT : Hid (∀ x ∈ mt, DeepT w w.heap.size x ∧ FitT x.td) := hdt
  have HLNmn : Hid (mn.length ≤ 140737488355328) := by show _ ≤ _; omega
  have HLNmt : Hid (mt.length ≤ 140737488355328) := by show _ ≤ _; omega
  have HBG : Hid (Calls Tryz.prog 29 #[] w fun e w' => e = .returned (.bool true) ∧ Below w.heap.size w w') := Dk.begins_true w
  clear hrn hrt hdn hdt hln hlt
  go_enter Tryz.func10, Tryz.ntmps10
  go_wp2_with fail
  refine HBG.out.mono ?_
  rintro e w1 ⟨rfl, hb⟩
  have HB1 : Hid (Below w.heap.size w w1) := hb
  clear hb HBG
  go_upto_region 3 with fail
  refine wp_region_list ?_
  refine wpList_plain rfl fun K hK => ?_
  go_simp
  refine hK _ _ ?_
  clear hK K
  refine wpList_plain rfl fun K hK => ?_
  go_simp
  refine hK _ _ ?_
  clear hK K
  obtain ⟨th1, hbz, hx1⟩ := one_made w1 [.slice none 0 0, .slice none 0 0, .slice none 0 0, .int .u64 0] [.slice none 0 0, .slice none 0 0, .slice none 0 0, .int .u64 0] 27 rfl
  refine wpList_store_mid rfl 27 (.tmp 5) (.tmp 21) rfl (w1.heap.size) 0 #[.slice none 0 0, .slice none 0 0, .slice none 0 0, .int .u64 0] rfl rfl th1 rfl (all_oneCell_toArray (List.all_eq_true.1 (show List.all ([.slice none 0 0, .slice none 0 0, .slice none 0 0, .int .u64 0] : List Value) (fun v => v.oneCell') = true from rfl))) ?_
  rw [show (#[.slice none 0 0, .slice none 0 0, .slice none 0 0, .int .u64 0] : Array Value).toList = [.slice none 0 0, .slice none 0 0, .slice none 0 0, .int .u64 0] from rfl]
  clear th1
  generalize (w1.alloc (.cells #[.slice none 0 0, .slice none 0 0, .slice none 0 0, .int .u64 0] 27)).setCells w1.heap.size 0 [.slice none 0 0, .slice none 0 0, .slice none 0 0, .int .u64 0] = z1 at *
  have HX1 := Lib.hid hx1
  have HB2 : Hid (Below w1.heap.size w1 z1) := hbz
  clear hx1 hbz
  refine wpList_nil ?_
  go_wp2
  go_loopg [24] mn.length (fun gg i wx => ∃ (k : Nat) (c : Bk) (a1 g1 p1 : Option Addr) (d1 h1 q1 : Nat), k + gg = mn.length ∧ i = .int .i64 k ∧ Aside (chkB c = true ∧ c.fe = 0) ∧ Aside (Hd.Bxn wx w1.heap.size [.slice a1 c.ns.length d1, .slice g1 c.ts.length h1, .slice p1 c.bs.length q1, .int .u64 (c.fe : Nat)]) ∧ Aside (BkIn w1 wx c (.slice a1 c.ns.length d1) (.slice g1 c.ts.length h1) (.slice p1 c.bs.length q1)) ∧ Aside (Below w1.heap.size w1 wx))
  case atStart => exact ⟨0, bk0, none, none, none, 0, 0, 0, by omega, rfl, ⟨chk0, rfl⟩, HX1.out, .inl (fun z _ => ⟨Nds.nil _ _, Tds.nil _ _, Bds.nil _ _, by decide⟩), HB2.out⟩
  case round =>
    obtain ⟨k, c, a1, g1, p1, d1, h1, q1, hkg, rfl, HA1, HA2, HA3, HA4⟩ := hrel
    obtain ⟨v1, rfl⟩ : ∃ q, q = wr := ⟨wr, rfl⟩
    have HC := Lib.hid HA1.out
    have HX := Lib.hid HA2.out
    have HK := Lib.hid HA3.out
    have HB : Hid (Below w1.heap.size w1 v1) := HA4.out
    clear HA1 HA2 HA3 HA4
    clear HX1 HB2
    cases gk with
    | zero =>
      obtain rfl : k = mn.length := by omega
      clear hkg
      go_wp2
      go_loopg [41] mt.length (fun gg i wx => ∃ (k : Nat) (c : Bk) (a1 g1 p1 : Option Addr) (d1 h1 q1 : Nat), k + gg = mt.length ∧ i = .int .i64 k ∧ Aside (chkB c = true ∧ c.fe = 0) ∧ Aside (Hd.Bxn wx w1.heap.size [.slice a1 c.ns.length d1, .slice g1 c.ts.length h1, .slice p1 c.bs.length q1, .int .u64 (c.fe : Nat)]) ∧ Aside (BkIn w1 wx c (.slice a1 c.ns.length d1) (.slice g1 c.ts.length h1) (.slice p1 c.bs.length q1)) ∧ Aside (Below w1.heap.size w1 wx))
      case atStart => exact ⟨0, c, a1, g1, p1, d1, h1, q1, by omega, rfl, HC.out, HX.out, HK.out, HB.out⟩
      case round =>
        clear HC HX HK HB
        obtain ⟨k, c, a1, g1, p1, d1, h1, q1, hkg, rfl, HA1, HA2, HA3, HA4⟩ := hrel
        obtain ⟨s1, rfl⟩ : ∃ q, q = wr := ⟨wr, rfl⟩
        have HC := Lib.hid HA1.out
        have HX := Lib.hid HA2.out
        have HK := Lib.hid HA3.out
        have HB : Hid (Below w1.heap.size w1 s1) := HA4.out
        clear HA1 HA2 HA3 HA4
        have HCK : Hid (∀ z, Books z z.heap.size (.slice a1 c.ns.length d1) (.slice g1 c.ts.length h1) (.slice p1 c.bs.length q1) c → Calls Tryz.prog 28 #[.agg #[.slice a1 c.ns.length d1, .slice g1 c.ts.length h1, .slice p1 c.bs.length q1, .int .u64 (c.fe : Nat)]] z fun e w' => e = .returned (.int .i64 0) ∧ Below z.heap.size z w') := fun z hz => by
          have h := check_any c _ _ _ z hz
          rw [HC.out.1] at h
          exact h
        cases gk with
        | zero =>
          obtain rfl : k = mt.length := by omega
          clear hkg
          have y0 : s1.cell? ⟨w1.heap.size, 0, none⟩ = some (.slice a1 c.ns.length d1) := HX.out.cell 0
          have y1 : s1.cell? ⟨w1.heap.size, 1, none⟩ = some (.slice g1 c.ts.length h1) := HX.out.cell 1
          have y2 : s1.cell? ⟨w1.heap.size, 2, none⟩ = some (.slice p1 c.bs.length q1) := HX.out.cell 2
          have y3 : s1.cell? ⟨w1.heap.size, 3, none⟩ = some (.int .u64 (c.fe : Nat)) := HX.out.cell 3
          go_wp2_with fail
          refine (HCK.out s1 (HK.out.books HB.out)).mono ?_
          rintro e wz ⟨rfl, hb⟩
          have HE : Hid (Below w.heap.size w wz) := HB1.out.trans ((HB.out.trans (hb.mono HB.out.size)).mono HB1.out.size)
          clear hb y0 y1 y2 y3
          go_wp2
          go_ret
          exact ⟨rfl, HE.out⟩
        | succ gg =>
          have hlk : k < mt.length := by omega
          have t2 : (k : Int) < (mt.length : Int) := by omega
          have t3 : IntKind.i64.wrap ((k : Int) + 1) = (k : Int) + 1 := by rw [IntKind.wrap_i64]; have := HLNmt.out; omega
          have t4 : (0 : Int) ≤ (k : Int) := by omega
          obtain ⟨g, off, rfl, -, hgl, hat⟩ := HRT.out (by omega)
          have ha : At w g (off + k * 9) mt[k] := hat k hlk
          have HDF := Lib.hid (HDT.out _ (List.getElem_mem hlk))
          generalize mt[k] = x at *
          have HBW : Hid (Below w.heap.size w s1) := HB1.out.trans (HB.out.mono HB1.out.size)
          have hrow : s1.rangeAt g (off + k * 9) [.string x.td.n, .int .i64 x.td.z0, .int .i64 x.td.z1, .int .i64 x.td.z2, .slice x.a4 x.td.ws.length x.c4, .slice x.a5 x.td.bs.length x.c5, .string x.td.g, .string x.td.a, .int .i64 x.td.r] := fun i u hj => (HBW.out.cell (by exact hgl)).trans (ha i u hj)
          have HKG := Lib.hid hkg
          clear hkg hat ha hgl hlk
          go_upto_region 12 with fail
          refine wp_region_list ?_
          refine wpList_plain rfl fun K hK => ?_
          go_simp
          refine hK _ _ ?_
          clear hK K
          refine wpList_plain rfl fun K hK => ?_
          go_simp
          refine hK _ _ ?_
          clear hK K
          refine wpList_load_mid rfl 42 (.tmp 44) rfl (g) (off + k * 9) rfl [.string x.td.n, .int .i64 x.td.z0, .int .i64 x.td.z1, .int .i64 x.td.z2, .slice x.a4 x.td.ws.length x.c4, .slice x.a5 x.td.bs.length x.c5, .string x.td.g, .string x.td.a, .int .i64 x.td.r] _ (hrow) Tryz.underlying42 rfl rfl ?_
          refine wpList_plain rfl fun K hK => ?_
          go_simp
          refine hK _ _ ?_
          clear hK K
          refine wpList_plain rfl fun K hK => ?_
          go_simp
          refine hK _ _ ?_
          clear hK K
          obtain ⟨th1, hbz, hx1⟩ := one_made s1 [.string ⟨#[]⟩, .int .i64 0, .int .i64 0, .int .i64 0, .slice none 0 0, .slice none 0 0, .string ⟨#[]⟩, .string ⟨#[]⟩, .int .i64 0] [.string x.td.n, .int .i64 x.td.z0, .int .i64 x.td.z1, .int .i64 x.td.z2, .slice x.a4 x.td.ws.length x.c4, .slice x.a5 x.td.bs.length x.c5, .string x.td.g, .string x.td.a, .int .i64 x.td.r] 42 rfl
          refine wpList_store_mid rfl 42 (.tmp 9) (.tmp 45) rfl (s1.heap.size) 0 #[.string x.td.n, .int .i64 x.td.z0, .int .i64 x.td.z1, .int .i64 x.td.z2, .slice x.a4 x.td.ws.length x.c4, .slice x.a5 x.td.bs.length x.c5, .string x.td.g, .string x.td.a, .int .i64 x.td.r] rfl rfl th1 rfl (all_oneCell_toArray (List.all_eq_true.1 (show List.all ([.string x.td.n, .int .i64 x.td.z0, .int .i64 x.td.z1, .int .i64 x.td.z2, .slice x.a4 x.td.ws.length x.c4, .slice x.a5 x.td.bs.length x.c5, .string x.td.g, .string x.td.a, .int .i64 x.td.r] : List Value) (fun v => v.oneCell') = true from rfl))) ?_
          rw [show (#[.string x.td.n, .int .i64 x.td.z0, .int .i64 x.td.z1, .int .i64 x.td.z2, .slice x.a4 x.td.ws.length x.c4, .slice x.a5 x.td.bs.length x.c5, .string x.td.g, .string x.td.a, .int .i64 x.td.r] : Array Value).toList = [.string x.td.n, .int .i64 x.td.z0, .int .i64 x.td.z1, .int .i64 x.td.z2, .slice x.a4 x.td.ws.length x.c4, .slice x.a5 x.td.bs.length x.c5, .string x.td.g, .string x.td.a, .int .i64 x.td.r] from rfl]
          clear th1 hrow
          generalize (s1.alloc (.cells #[.string ⟨#[]⟩, .int .i64 0, .int .i64 0, .int .i64 0, .slice none 0 0, .slice none 0 0, .string ⟨#[]⟩, .string ⟨#[]⟩, .int .i64 0] 42)).setCells s1.heap.size 0 [.string x.td.n, .int .i64 x.td.z0, .int .i64 x.td.z1, .int .i64 x.td.z2, .slice x.a4 x.td.ws.length x.c4, .slice x.a5 x.td.bs.length x.c5, .string x.td.g, .string x.td.a, .int .i64 x.td.r] = s2 at *
          have HX0 := Lib.hid (HX.out.below hbz)
          have HQ := Lib.hid hx1
          have HK0 := Lib.hid (HK.out.keep hbz)
          have HB0 : Hid (Below w1.heap.size w1 s2) := HB.out.trans (hbz.mono HB.out.size)
          have HW0 : Hid (Below w.heap.size w s2) := HB1.out.trans (HB0.out.mono HB1.out.size)
          have HZQ : Hid (w1.heap.size < s1.heap.size) := HX.out.lt
          clear hbz hx1 HX HK HB HBW
          refine wpList_nil ?_
          by_cases h20 : k = 20
          · have u0 : ((k : Int) == 20) = true := by simp; omega
            have u0b : (k : Int) = 20 := by omega
            clear h20 HQ
            subst_vars
            have y0 : s2.cell? ⟨w1.heap.size, 0, none⟩ = some (.slice a1 c.ns.length d1) := HX0.out.cell 0
            have y1 : s2.cell? ⟨w1.heap.size, 1, none⟩ = some (.slice g1 c.ts.length h1) := HX0.out.cell 1
            have y2 : s2.cell? ⟨w1.heap.size, 2, none⟩ = some (.slice p1 c.bs.length q1) := HX0.out.cell 2
            have y3 : s2.cell? ⟨w1.heap.size, 3, none⟩ = some (.int .u64 (c.fe : Nat)) := HX0.out.cell 3
            go_wp2_with fail
            refine (HCK.out s2 (HK0.out.books HB0.out)).mono ?_
            rintro e wz ⟨rfl, hb⟩
            have HE : Hid (Below w.heap.size w wz) := HB1.out.trans ((HB0.out.trans (hb.mono HB0.out.size)).mono HB1.out.size)
            clear hb y0 y1 y2 y3
            go_wp2
            go_ret
            exact ⟨rfl, HE.out⟩
          · have u0 : ((k : Int) == 20) = false := by simp; omega
            have u0b : ¬ (k : Int) = 20 := by omega
            obtain ⟨c2, r, hd, hc2⟩ : ∃ c2 r, doF c (oTsk x.td) = (c2, r, ByteArray.empty) ∧ (r = 0 → chkB c2 = true ∧ c2.fe = 0 ∧ x.td ∈ c2.ts) := ⟨(adT c x.td).1, (adT c x.td).2, do_tsk HC.out.1 x.td, fun h => by have h1 := put_tsk HC.out.1 h; exact ⟨h1.1, h1.2.1.trans HC.out.2, h1.2.2⟩⟩
            have HC2 := Lib.hid hc2
            have HDO : Hid (∀ z, Below w.heap.size w z → Books z z.heap.size (.slice a1 c.ns.length d1) (.slice g1 c.ts.length h1) (.slice p1 c.bs.length q1) c → Calls Tryz.prog 21 #[.agg #[.slice a1 c.ns.length d1, .slice g1 c.ts.length h1, .slice p1 c.bs.length q1, .int .u64 (c.fe : Nat)], .agg #[.int .u8 3, .string ⟨#[]⟩, .int .i64 0, .int .i64 0, .int .i64 0, .slice none 0 0, .slice none 0 0, .string x.td.n, .int .i64 x.td.z0, .int .i64 x.td.z1, .int .i64 x.td.z2, .slice x.a4 x.td.ws.length x.c4, .slice x.a5 x.td.bs.length x.c5, .string x.td.g, .string x.td.a, .int .i64 x.td.r, .string ⟨#[]⟩, .string ⟨#[]⟩, .int .u64 0]] z fun e w' => ∃ vn' vt' vb', e = .returned (.tuple #[.agg #[vn', vt', vb', .int .u64 (c2.fe : Nat)], .agg #[.int .i64 (r : Nat), .string ⟨#[]⟩]]) ∧ Kept z w' c2 vn' vt' vb' ∧ Below z.heap.size z w') := fun z hbz hz => do_use c c2 r ByteArray.empty _ _ _ (oTsk x.td) none none x.a4 x.a5 0 0 x.c4 x.c5 z hz (deepN0 z _ rfl rfl) fitN0 (HDF.out.1.on hbz) HDF.out.2 ⟨fitS0, fitS0⟩ hd
            clear hd hc2 h20
            go_upto_region 14 with fail
            clear u0 u0b
            refine wp_region_list ?_
            refine wpList_load_mid rfl 27 (.tmp 5) rfl (w1.heap.size) (0) rfl [.slice a1 c.ns.length d1, .slice g1 c.ts.length h1, .slice p1 c.bs.length q1, .int .u64 (c.fe : Nat)] _ (HX0.out.range 0) Tryz.underlying27 rfl rfl ?_
            refine wpList_load_mid rfl 42 (.tmp 9) rfl (s1.heap.size) (0) rfl [.string x.td.n, .int .i64 x.td.z0, .int .i64 x.td.z1, .int .i64 x.td.z2, .slice x.a4 x.td.ws.length x.c4, .slice x.a5 x.td.bs.length x.c5, .string x.td.g, .string x.td.a, .int .i64 x.td.r] _ (HQ.out.range 0) Tryz.underlying42 rfl rfl ?_
            refine wpList_plain rfl fun K hK => ?_
            go_simp
            refine hK _ _ ?_
            clear hK K
            refine wpList_plain rfl fun K hK => ?_
            go_wp2_with fail
            refine (HDO.out s2 HW0.out (HK0.out.books HB0.out)).mono ?_
            rintro e w4 ⟨v1, v2, v3, rfl, hkp, hb⟩
            obtain ⟨⟨a4, c4, rfl⟩, ⟨b4, d4, rfl⟩, ⟨e4, f4, rfl⟩⟩ := hkp.slices
            refine hK _ _ ?_
            clear hK K
            have HX4' := Lib.hid (HX0.out.below hb)
            have HB4' : Hid (Below w1.heap.size w1 w4) := HB0.out.trans (hb.mono HB0.out.size)
            have HK4' := Lib.hid (HK0.out.keep hb)
            have HQ4' := Lib.hid (HQ.out.below hb)
            have HKP' := Lib.hid hkp
            have HZS : Hid (w1.heap.size < s1.heap.size ∧ s1.heap.size < s2.heap.size ∧ s2.heap.size ≤ w4.heap.size) := ⟨HZQ.out, HQ.out.lt, hb.size⟩
            clear hb hkp HX0 HB0 HK0 HQ HDO HZQ
            refine wpList_plain rfl fun K hK => ?_
            go_simp
            refine hK _ _ ?_
            clear hK K
            refine wpList_plain rfl fun K hK => ?_
            go_simp
            refine hK _ _ ?_
            clear hK K
            refine wpList_plain rfl fun K hK => ?_
            go_simp
            refine hK _ _ ?_
            clear hK K
            refine wpList_plain rfl fun K hK => ?_
            go_simp
            refine hK _ _ ?_
            clear hK K
            refine wpList_plain rfl fun K hK => ?_
            go_simp
            refine hK _ _ ?_
            clear hK K
            obtain ⟨th1, th2, hbz, hx1, hx2⟩ := two_made w4 [.slice none 0 0, .slice none 0 0, .slice none 0 0, .int .u64 0] [.int .i64 0, .string ⟨#[]⟩] [.slice a4 (c2).ns.length c4, .slice b4 (c2).ts.length d4, .slice e4 (c2).bs.length f4, .int .u64 ((c2).fe : Nat)] [.int .i64 (r : Nat), .string ⟨#[]⟩] 27 50 rfl rfl
            refine wpList_store_mid rfl 27 (.tmp 10) (.tmp 53) rfl (w4.heap.size) 0 #[.slice a4 (c2).ns.length c4, .slice b4 (c2).ts.length d4, .slice e4 (c2).bs.length f4, .int .u64 ((c2).fe : Nat)] rfl rfl th1 rfl (all_oneCell_toArray (List.all_eq_true.1 (show List.all ([.slice a4 (c2).ns.length c4, .slice b4 (c2).ts.length d4, .slice e4 (c2).bs.length f4, .int .u64 ((c2).fe : Nat)] : List Value) (fun v => v.oneCell') = true from rfl))) ?_
            rw [show (#[.slice a4 (c2).ns.length c4, .slice b4 (c2).ts.length d4, .slice e4 (c2).bs.length f4, .int .u64 ((c2).fe : Nat)] : Array Value).toList = [.slice a4 (c2).ns.length c4, .slice b4 (c2).ts.length d4, .slice e4 (c2).bs.length f4, .int .u64 ((c2).fe : Nat)] from rfl]
            refine wpList_store_mid rfl 50 (.tmp 11) (.tmp 54) rfl (w4.heap.size + 1) 0 #[.int .i64 (r : Nat), .string ⟨#[]⟩] rfl rfl th2 rfl (all_oneCell_toArray (List.all_eq_true.1 (show List.all ([.int .i64 (r : Nat), .string ⟨#[]⟩] : List Value) (fun v => v.oneCell') = true from rfl))) ?_
            rw [show (#[.int .i64 (r : Nat), .string ⟨#[]⟩] : Array Value).toList = [.int .i64 (r : Nat), .string ⟨#[]⟩] from rfl]
            clear th1 th2
            generalize (((w4.alloc (.cells #[.slice none 0 0, .slice none 0 0, .slice none 0 0, .int .u64 0] 27)).alloc (.cells #[.int .i64 0, .string ⟨#[]⟩] 50)).setCells w4.heap.size 0 [.slice a4 (c2).ns.length c4, .slice b4 (c2).ts.length d4, .slice e4 (c2).bs.length f4, .int .u64 ((c2).fe : Nat)]).setCells (w4.heap.size + 1) 0 [.int .i64 (r : Nat), .string ⟨#[]⟩] = z4 at *
            refine wpList_nil ?_
            have HX4 := Lib.hid (HX4'.out.below hbz)
            have HB4 : Hid (Below w1.heap.size w1 z4) := HB4'.out.trans (hbz.mono HB4'.out.size)
            have HK4 := Lib.hid (HK4'.out.keep hbz)
            have HQ4 := Lib.hid (HQ4'.out.below hbz)
            have HKP := Lib.hid (HKP'.out.keep hbz)
            have HX10 := Lib.hid hx1
            have HX11 := Lib.hid hx2
            clear hbz hx1 hx2 HX4' HB4' HK4' HQ4' HKP'
            have u1 : z4.cell? ⟨w4.heap.size + 1, 0, none⟩ = some (.int .i64 (r : Nat)) := HX11.out.cell 0
            by_cases hr : r = 0
            · subst hr
              obtain ⟨hc2, hfe, htm⟩ := HC2.out rfl
              go_upto_region 16 with fail
              clear u1
              refine wp_region_list ?_
              refine wpList_load_mid rfl 27 (.tmp 10) rfl (w4.heap.size) (0) rfl [.slice a4 (c2).ns.length c4, .slice b4 (c2).ts.length d4, .slice e4 (c2).bs.length f4, .int .u64 ((c2).fe : Nat)] _ (HX10.out.range 0) Tryz.underlying27 rfl rfl ?_
              have hth := HX4.out.there 4 rfl
              refine wpList_store_mid rfl 27 (.tmp 5) (.tmp 58) rfl (w1.heap.size) 0 #[.slice a4 (c2).ns.length c4, .slice b4 (c2).ts.length d4, .slice e4 (c2).bs.length f4, .int .u64 ((c2).fe : Nat)] rfl rfl hth rfl (all_oneCell_toArray (List.all_eq_true.1 (show List.all ([.slice a4 (c2).ns.length c4, .slice b4 (c2).ts.length d4, .slice e4 (c2).bs.length f4, .int .u64 ((c2).fe : Nat)] : List Value) (fun v => v.oneCell') = true from rfl))) ?_
              rw [show (#[.slice a4 (c2).ns.length c4, .slice b4 (c2).ts.length d4, .slice e4 (c2).bs.length f4, .int .u64 ((c2).fe : Nat)] : Array Value).toList = [.slice a4 (c2).ns.length c4, .slice b4 (c2).ts.length d4, .slice e4 (c2).bs.length f4, .int .u64 ((c2).fe : Nat)] from rfl]
              clear hth
              have HX5 := Lib.hid (HX4.out.all [.slice a4 (c2).ns.length c4, .slice b4 (c2).ts.length d4, .slice e4 (c2).bs.length f4, .int .u64 ((c2).fe : Nat)] rfl)
              have HK5 := Lib.hid (HKP.out.far (P := w1.heap.size) (by have := HZS.out; omega) 0 [.slice a4 (c2).ns.length c4, .slice b4 (c2).ts.length d4, .slice e4 (c2).bs.length f4, .int .u64 ((c2).fe : Nat)])
              have HB5 : Hid (Below w1.heap.size w1 (z4.setCells w1.heap.size 0 [.slice a4 (c2).ns.length c4, .slice b4 (c2).ts.length d4, .slice e4 (c2).bs.length f4, .int .u64 ((c2).fe : Nat)])) := below_setCells HB4.out (Nat.le_refl _) _ _
              have HQ5 := Lib.hid (bxn_far (o := 0) (vs := [.slice a4 (c2).ns.length c4, .slice b4 (c2).ts.length d4, .slice e4 (c2).bs.length f4, .int .u64 ((c2).fe : Nat)]) HQ4.out (by have := HZS.out; omega : s1.heap.size ≠ w1.heap.size))
              have HX105 := Lib.hid (bxn_far (o := 0) (vs := [.slice a4 (c2).ns.length c4, .slice b4 (c2).ts.length d4, .slice e4 (c2).bs.length f4, .int .u64 ((c2).fe : Nat)]) HX10.out (by have := HZS.out; omega : w4.heap.size ≠ w1.heap.size))
              have HX115 := Lib.hid (bxn_far (o := 0) (vs := [.slice a4 (c2).ns.length c4, .slice b4 (c2).ts.length d4, .slice e4 (c2).bs.length f4, .int .u64 ((c2).fe : Nat)]) HX11.out (by have := HZS.out; omega : w4.heap.size + 1 ≠ w1.heap.size))
              clear HX4 HKP HB4 HQ4 HX10 HX11 HK4
              generalize z4.setCells w1.heap.size 0 [.slice a4 (c2).ns.length c4, .slice b4 (c2).ts.length d4, .slice e4 (c2).bs.length f4, .int .u64 ((c2).fe : Nat)] = z5 at *
              have HBK5 := Lib.hid HK5.out.books
              refine wpList_nil ?_
              have HRB := Lib.hid (rb_of_chk hc2)
              have HCC : Hid (chkB c2 = true) := hc2
              have HFE : Hid (c2.fe = 0) := hfe
              have HTM : Hid (x.td ∈ c2.ts) := htm
              clear hc2 hfe htm HC2 HCK HC
              obtain ⟨m1, hm1, hsl, hdp, -⟩ := HBK5.out.hn
              have HM1 : Hid (c2.ns = m1.map (·.nd)) := hm1
              have HDP : Hid (∀ y ∈ m1, DeepN z5 z5.heap.size y ∧ FitN y.nd) := hdp
              have hnl : c2.ns.length = m1.length := by rw [hm1, List.length_map]
              have HNL : Hid (c2.ns.length = m1.length) := hnl
              have HM16 : Hid (m1.length ≤ 16) := by show _ ≤ _; rw [← hnl]; exact HRB.out.ln
              obtain ⟨am, cm, hav, -, -, -, hrm⟩ := hsl
              simp only [Value.slice.injEq] at hav
              obtain ⟨rfl, -, rfl⟩ := hav
              have HRM := Lib.hid hrm
              clear hm1 hdp hnl hrm
              have HNM : Hid (∀ y ∈ m1, y.nd ∈ c2.ns) := fun y hy => by rw [HM1.out]; exact List.mem_map_of_mem hy
              have HCN : Hid (∀ (v : ByteArray) z, Below z5.heap.size z5 z → Calls Tryz.prog 30 #[.agg #[.slice a4 (c2).ns.length c4, .slice b4 (c2).ts.length d4, .slice e4 (c2).bs.length f4, .int .u64 ((c2).fe : Nat)], .string x.td.n, .string v] z fun e w' => e = .returned (.int .i64 (canE c2 x.td.n v : Nat)) ∧ Below z.heap.size z w') := fun v z hz => by
                have h := canq_any c2 _ _ _ x.td.n v z (HBK5.out.on hz)
                have he : canF c2 x.td.n v = canE c2 x.td.n v := if_pos HCC.out
                rw [he] at h
                exact h
              have HUS : Hid (∀ y ∈ m1, ∀ z, Below z5.heap.size z5 z → Calls Tryz.prog 31 #[.agg #[.slice a4 (c2).ns.length c4, .slice b4 (c2).ts.length d4, .slice e4 (c2).bs.length f4, .int .u64 ((c2).fe : Nat)], .string y.nd.n] z fun e w' => e = .returned (.tuple #[.agg #[.int .i64 (us0 c2 y.nd.n), .int .i64 (us1 c2 y.nd.n), .int .i64 (us2 c2 y.nd.n)], .int .i64 0]) ∧ Below z.heap.size z w') := fun y hy z hz =>
                usedq_ok c2 _ _ _ y.nd.n z (HBK5.out.on hz) HCC.out (by unfold hsN; exact has_iff.2 (List.mem_map_of_mem (HNM.out y hy)))
              have y0 : z5.cell? ⟨w1.heap.size, 0, none⟩ = some (.slice a4 c2.ns.length c4) := HX5.out.cell 0
              go_wp2
              clear y0
              go_loopg [12, 62] c2.ns.length (fun gj sv i wx => ∃ j : Nat, j + gj = c2.ns.length ∧ i = .int .i64 j ∧ Aside (Own wx z5.heap.size 47 sv (((m1.take j).filter (fun y => decide (canE c2 x.td.n y.nd.n = 0))).map (mkL c2))) ∧ Aside (Below z5.heap.size z5 wx))
              case atStart => exact ⟨0, by omega, rfl, Own.nil _ _ _, Below.refl _ _⟩
              case round =>
                obtain ⟨j, hjg, rfl, HA, HU⟩ := hrel
                obtain ⟨r1, rfl⟩ : ∃ q, q = wr := ⟨wr, rfl⟩
                have HU1 : Hid (Below z5.heap.size z5 r1) := HU.out
                have HAO := Lib.hid HA.out
                clear HA HU
                cases gk with
                | zero =>
                  obtain rfl : j = c2.ns.length := by omega
                  clear hjg
                  have HXs := Lib.hid (HX5.out.below HU1.out)
                  have HQs := Lib.hid (HQ5.out.below HU1.out)
                  have HX10s := Lib.hid (HX105.out.below HU1.out)
                  have HX11s := Lib.hid (HX115.out.below HU1.out)
                  obtain ⟨lm, hlm⟩ : ∃ lm, lm = m1.filter (fun y => decide (canE c2 x.td.n y.nd.n = 0)) := ⟨_, rfl⟩
                  have HLM : Hid (∀ y ∈ lm, y ∈ m1 ∧ canE c2 x.td.n y.nd.n = 0) := fun y hy => by rw [hlm] at hy; have h := List.mem_filter.1 hy; exact ⟨h.1, of_decide_eq_true h.2⟩
                  have HLL : Hid (lm.length ≤ 16) := by show _ ≤ _; rw [hlm]; have h1 := List.length_filter_le (fun y : NdM => decide (canE c2 x.td.n y.nd.n = 0)) m1; have := HM16.out; omega
                  have hos := HAO.out
                  rw [HNL.out, List.take_length, ← hlm] at hos
                  have HOs := Lib.hid hos
                  clear hos
                  obtain ⟨qa, qc, rfl⟩ := HOs.out.slice
                  have HWs : Hid (Below w.heap.size w r1) := HB1.out.trans ((HB5.out.trans (HU1.out.mono HB5.out.size)).mono HB1.out.size)
                  have HBT : Hid (Calls Tryz.prog 32 #[.agg #[.string x.td.n, .int .i64 x.td.z0, .int .i64 x.td.z1, .int .i64 x.td.z2, .slice x.a4 x.td.ws.length x.c4, .slice x.a5 x.td.bs.length x.c5, .string x.td.g, .string x.td.a, .int .i64 x.td.r], .slice qa (lm.map (mkL c2)).length qc] r1 fun e w' => ∃ i : Nat, e = .returned (.tuple #[.int .i64 (i : Nat), .int .i64 ((if lm.length = 0 then 13 else 0 : Nat) : Nat)]) ∧ (lm.length ≠ 0 → i < lm.length) ∧ Below r1.heap.size r1 w') := best_at HRB.out x HTM.out lm (fun y hy => ⟨HNM.out y (HLM.out y hy).1, (HLM.out y hy).2⟩) _ r1 HOs.out (by have := HLL.out; omega) (fun y hy => ⟨(HDP.out y (HLM.out y hy).1).1.on HU1.out, (HDP.out y (HLM.out y hy).1).2⟩) (HDF.out.1.on HWs.out) HDF.out.2
                  have hlen : (lm.map (mkL c2)).length = lm.length := List.length_map ..
                  rw [hlen] at HBT HOs ⊢
                  clear hlm hlen HAO HWs
                  have k0 : r1.cell? ⟨s1.heap.size, 0, none⟩ = some (.string x.td.n) := HQs.out.cell 0
                  have k1 : r1.cell? ⟨s1.heap.size, 1, none⟩ = some (.int .i64 x.td.z0) := HQs.out.cell 1
                  have k2 : r1.cell? ⟨s1.heap.size, 2, none⟩ = some (.int .i64 x.td.z1) := HQs.out.cell 2
                  have k3 : r1.cell? ⟨s1.heap.size, 3, none⟩ = some (.int .i64 x.td.z2) := HQs.out.cell 3
                  have k4 : r1.cell? ⟨s1.heap.size, 4, none⟩ = some (.slice x.a4 x.td.ws.length x.c4) := HQs.out.cell 4
                  have k5 : r1.cell? ⟨s1.heap.size, 5, none⟩ = some (.slice x.a5 x.td.bs.length x.c5) := HQs.out.cell 5
                  have k6 : r1.cell? ⟨s1.heap.size, 6, none⟩ = some (.string x.td.g) := HQs.out.cell 6
                  have k7 : r1.cell? ⟨s1.heap.size, 7, none⟩ = some (.string x.td.a) := HQs.out.cell 7
                  have k8 : r1.cell? ⟨s1.heap.size, 8, none⟩ = some (.int .i64 x.td.r) := HQs.out.cell 8
                  go_wp2_with fail
                  refine HBT.out.mono ?_
                  rintro e zb ⟨i, rfl, hil, hb⟩
                  have HXb := Lib.hid (HXs.out.below hb)
                  have HQb := Lib.hid (HQs.out.below hb)
                  have HX10b := Lib.hid (HX10s.out.below hb)
                  have HX11b := Lib.hid (HX11s.out.below hb)
                  have HUb : Hid (Below z5.heap.size z5 zb) := HU1.out.trans (hb.mono HU1.out.size)
                  have HOb := Lib.hid (HOs.out.keep hb)
                  clear hb k0 k1 k2 k3 k4 k5 k6 k7 k8 HBT HXs HQs HX10s HX11s HOs HU1
                  have u6 : ¬ (i : Int) < 0 := by omega
                  have u6b : decide ((i : Int) < 0) = false := decide_eq_false u6
                  by_cases hz : lm.length = 0
                  · have HBb : Hid (Below w1.heap.size w1 zb) := HB5.out.trans (HUb.out.mono HB5.out.size)
                    have HKb : Hid (BkIn w1 zb c2 (.slice a4 c2.ns.length c4) (.slice b4 c2.ts.length d4) (.slice e4 c2.bs.length f4)) := .inr ⟨s2, by have := HZS.out; omega, HK5.out.keep HUb.out⟩
                    rw [if_pos hz, hz]
                    clear hz hil HOb HLM HLL HQb HX10b HX11b
                    go_wp2
                    go_roundg gg
                    case measure => omega
                    case rel => exact ⟨k + 1, c2, a4, b4, e4, c4, d4, f4, by have := HKG.out; omega, by simp, ⟨HCC.out, HFE.out⟩, HXb.out, HKb.out, HBb.out⟩
                  · have hi : i < lm.length := hil hz
                    rw [if_neg hz]
                    obtain ⟨gl, cl, hv, hbl, hgl, hat, -⟩ := HOb.out.form (by rw [List.length_map]; omega)
                    rw [List.length_map] at hv
                    simp only [Value.slice.injEq, true_and] at hv
                    obtain ⟨rfl, rfl⟩ := hv
                    have hcl : zb.cell? ⟨gl, i * 9, none⟩ = some (.string lm[i].nd.n) := by
                      have h := hat i (by rw [List.length_map]; exact hi)
                      rw [List.getElem_map] at h
                      exact h 0 _ rfl
                    have HGL : Hid (w4.heap.size + 1 < gl) := by show _ < _; have h1 := HX115.out.lt; omega
                    have HYM := Lib.hid (HLM.out _ (List.getElem_mem hi))
                    have v1 : (i : Int) < (lm.length : Int) := by omega
                    have v2 : ¬ (lm.length : Int) ≤ (i : Int) := by omega
                    have v2b : decide ((lm.length : Int) ≤ (i : Int)) = false := decide_eq_false v2
                    have v3 : (0 : Int) < (lm.length : Int) := by omega
                    have v3b : decide ((0 : Int) < (lm.length : Int)) = true := decide_eq_true v3
                    have v4 : (0 : Int) ≤ (i : Int) := by omega
                    generalize lm[i] = y at *
                    have HCL : Hid (zb.cell? ⟨gl, i * 9, none⟩ = some (.string y.nd.n)) := hcl
                    obtain ⟨c3, hd, hc3, hf3⟩ := put_bnd HCC.out HFE.out HYM.out.2
                    have HC3 : Hid (chkB c3 = true ∧ c3.fe = 0) := ⟨hc3, hf3⟩
                    have HFY : Hid (FitB ⟨x.td.n, y.nd.n⟩) := ⟨HDF.out.2.1.1, (HDP.out y HYM.out.1).2.1⟩
                    have HDB : Hid (∀ z, Books z z.heap.size (.slice a4 c2.ns.length c4) (.slice b4 c2.ts.length d4) (.slice e4 c2.bs.length f4) c2 → Calls Tryz.prog 21 #[.agg #[.slice a4 (c2).ns.length c4, .slice b4 (c2).ts.length d4, .slice e4 (c2).bs.length f4, .int .u64 ((c2).fe : Nat)], .agg #[.int .u8 5, .string ⟨#[]⟩, .int .i64 0, .int .i64 0, .int .i64 0, .slice none 0 0, .slice none 0 0, .string ⟨#[]⟩, .int .i64 0, .int .i64 0, .int .i64 0, .slice none 0 0, .slice none 0 0, .string ⟨#[]⟩, .string ⟨#[]⟩, .int .i64 0, .string x.td.n, .string y.nd.n, .int .u64 0]] z fun e w' => ∃ vn' vt' vb', e = .returned (.tuple #[.agg #[vn', vt', vb', .int .u64 (c3.fe : Nat)], .agg #[.int .i64 0, .string ⟨#[]⟩]]) ∧ Kept z w' c3 vn' vt' vb' ∧ Below z.heap.size z w') := fun z hz' => do_use c2 c3 0 ByteArray.empty _ _ _ (oBnd x.td.n y.nd.n 0) none none none none 0 0 0 0 z hz' (deepN0 z _ rfl rfl) fitN0 (deepT0 z _ rfl rfl) fitT0 HFY.out hd
                    have HCH : Hid (∀ z vn' vt' vb', Books z z.heap.size vn' vt' vb' c3 → Calls Tryz.prog 28 #[.agg #[vn', vt', vb', .int .u64 (c3.fe : Nat)]] z fun e w' => e = .returned (.int .i64 0) ∧ Below z.heap.size z w') := fun z vn' vt' vb' hz' => by
                      have h := check_any c3 vn' vt' vb' z hz'
                      rw [HC3.out.1] at h
                      exact h
                    clear hd hc3 hf3 hcl hat hgl hbl hil hi hz HLM HOb HYM HFY
                    go_upto_region 29 with fail
                    have hbd : Below zb.heap.size zb zb.drew := ⟨rfl, rfl, rfl, Nat.le_refl _, fun _ _ => rfl⟩
                    have HXd := Lib.hid (HXb.out.below hbd)
                    have HQd := Lib.hid (HQb.out.below hbd)
                    have HX10d := Lib.hid (HX10b.out.below hbd)
                    have HX11d := Lib.hid (HX11b.out.below hbd)
                    have HUd : Hid (Below z5.heap.size z5 zb.drew) := HUb.out.trans (hbd.mono HUb.out.size)
                    have HCd : Hid (zb.drew.cell? ⟨gl, i * 9, none⟩ = some (.string y.nd.n)) := HCL.out
                    clear hbd HXb HQb HX10b HX11b HUb HCL
                    refine wp_region_held_drew (S := fun z => z.cell? ⟨s1.heap.size, 0, none⟩ = some (.string x.td.n) ∧ z.cell? ⟨gl, i * 9, none⟩ = some (.string y.nd.n)) (by kernel_rfl) ⟨HQd.out.cell 0, HCd.out⟩ (fun hHeld => ?_)
                    generalize zb.drew = wd at *
                    refine wpAnyH_take (i := 1) (v := ?_) rfl (by kernel_rfl) (by kernel_rfl) (by kernel_rfl) (fun _ _ _ h => h) (Or.inl ⟨by rfl, ?_⟩) (by assumption) ?_
                    rotate_left
                    · intro z hSz
                      obtain ⟨q3, q4⟩ := hSz
                      go_simp
                      try with_reducible rfl
                    try simp only [Act.put, List.setIfInBounds_toArray, List.set_cons_zero, List.set_cons_succ, List.getElem_toArray, List.getElem_cons_succ, List.getElem_cons_zero]
                    refine wpAnyH_take (i := 2) (v := ?_) rfl (by kernel_rfl) (by kernel_rfl) (by kernel_rfl) (fun _ _ _ h => h) (Or.inl ⟨by rfl, ?_⟩) (by assumption) ?_
                    rotate_left
                    · intro z hSz
                      obtain ⟨q3, q4⟩ := hSz
                      go_simp
                      try with_reducible rfl
                    try simp only [Act.put, List.setIfInBounds_toArray, List.set_cons_zero, List.set_cons_succ, List.getElem_toArray, List.getElem_cons_succ, List.getElem_cons_zero]
                    refine wpAnyH_take (i := 3) (v := ?_) rfl (by kernel_rfl) (by kernel_rfl) (by kernel_rfl) (fun _ _ _ h => h) (Or.inl ⟨by rfl, ?_⟩) (by assumption) ?_
                    rotate_left
                    · intro z hSz
                      obtain ⟨q3, q4⟩ := hSz
                      go_simp
                      try with_reducible rfl
                    try simp only [Act.put, List.setIfInBounds_toArray, List.set_cons_zero, List.set_cons_succ, List.getElem_toArray, List.getElem_cons_succ, List.getElem_cons_zero]
                    refine wpAnyH_take (i := 4) (v := ?_) rfl (by kernel_rfl) (by kernel_rfl) (by kernel_rfl) (fun _ _ _ h => h) (Or.inl ⟨by rfl, ?_⟩) (by assumption) ?_
                    rotate_left
                    · intro z hSz
                      obtain ⟨q3, q4⟩ := hSz
                      go_simp
                      try with_reducible rfl
                    try simp only [Act.put, List.setIfInBounds_toArray, List.set_cons_zero, List.set_cons_succ, List.getElem_toArray, List.getElem_cons_succ, List.getElem_cons_zero]
                    refine wpAnyH_take (i := 5) (v := ?_) rfl (by kernel_rfl) (by kernel_rfl) (by kernel_rfl) (fun _ _ _ h => h) (Or.inl ⟨by rfl, ?_⟩) (by assumption) ?_
                    rotate_left
                    · intro z hSz
                      obtain ⟨q3, q4⟩ := hSz
                      go_simp
                      try with_reducible rfl
                    try simp only [Act.put, List.setIfInBounds_toArray, List.set_cons_zero, List.set_cons_succ, List.getElem_toArray, List.getElem_cons_succ, List.getElem_cons_zero]
                    refine wpAnyH_take (i := 6) (v := ?_) rfl (by kernel_rfl) (by kernel_rfl) (by kernel_rfl) (fun _ _ _ h => h) (Or.inl ⟨by rfl, ?_⟩) (by assumption) ?_
                    rotate_left
                    · intro z hSz
                      obtain ⟨q3, q4⟩ := hSz
                      go_simp
                      try with_reducible rfl
                    try simp only [Act.put, List.setIfInBounds_toArray, List.set_cons_zero, List.set_cons_succ, List.getElem_toArray, List.getElem_cons_succ, List.getElem_cons_zero]
                    refine wpAnyH_take (i := 7) (v := ?_) rfl (by kernel_rfl) (by kernel_rfl) (by kernel_rfl) (fun _ _ _ h => h) (Or.inl ⟨by rfl, ?_⟩) (by assumption) ?_
                    rotate_left
                    · intro z hSz
                      obtain ⟨q3, q4⟩ := hSz
                      go_simp
                      try with_reducible rfl
                    try simp only [Act.put, List.setIfInBounds_toArray, List.set_cons_zero, List.set_cons_succ, List.getElem_toArray, List.getElem_cons_succ, List.getElem_cons_zero]
                    refine wpAnyH_take (i := 8) (v := ?_) rfl (by kernel_rfl) (by kernel_rfl) (by kernel_rfl) (fun _ _ _ h => h) (Or.inl ⟨by rfl, ?_⟩) (by assumption) ?_
                    rotate_left
                    · intro z hSz
                      obtain ⟨q3, q4⟩ := hSz
                      go_simp
                      try with_reducible rfl
                    try simp only [Act.put, List.setIfInBounds_toArray, List.set_cons_zero, List.set_cons_succ, List.getElem_toArray, List.getElem_cons_succ, List.getElem_cons_zero]
                    refine wpAnyH_take (i := 9) (v := ?_) rfl (by kernel_rfl) (by kernel_rfl) (by kernel_rfl) (fun _ _ _ h => h) (Or.inl ⟨by rfl, ?_⟩) (by assumption) ?_
                    rotate_left
                    · intro z hSz
                      obtain ⟨q3, q4⟩ := hSz
                      go_simp
                      try with_reducible rfl
                    try simp only [Act.put, List.setIfInBounds_toArray, List.set_cons_zero, List.set_cons_succ, List.getElem_toArray, List.getElem_cons_succ, List.getElem_cons_zero]
                    refine wpAnyH_ready (rs := [0]) (by kernel_rfl) (by simp) ?_
                    refine AllReadyH.cons rfl (fun K hK => ?_) AllReadyH.nil
                    have b0 : wd.cell? ⟨w1.heap.size, 0, none⟩ = some (.slice a4 (c2).ns.length c4) := HXd.out.cell 0
                    have b1 : wd.cell? ⟨w1.heap.size, 1, none⟩ = some (.slice b4 (c2).ts.length d4) := HXd.out.cell 1
                    have b2 : wd.cell? ⟨w1.heap.size, 2, none⟩ = some (.slice e4 (c2).bs.length f4) := HXd.out.cell 2
                    have b3 : wd.cell? ⟨w1.heap.size, 3, none⟩ = some (.int .u64 ((c2).fe : Nat)) := HXd.out.cell 3
                    go_simp
                    refine hK.out _ _ (⟨HQd.out.cell 0, HCd.out⟩) (fun hHeld2 => ?_)
                    clear hK K hHeld
                    have hHeld := hHeld2
                    clear hHeld2
                    try simp only [Act.put, List.setIfInBounds_toArray, List.set_cons_zero, List.set_cons_succ, List.getElem_toArray, List.getElem_cons_succ, List.getElem_cons_zero]
                    clear b0 b1 b2 b3
                    refine wpAnyH_ready (rs := [10]) (by kernel_rfl) (by simp) ?_
                    refine AllReadyH.cons rfl (fun K hK => ?_) AllReadyH.nil
                    go_simp
                    (with_reducible refine (HDB.out wd (HBK5.out.on HUd.out)).mono ?_)
                    rintro e w8 ⟨v1', v2', v3', rfl, hkp, hb⟩
                    obtain ⟨⟨a5, c5, rfl⟩, ⟨b5, d5, rfl⟩, ⟨e5, f5, rfl⟩⟩ := hkp.slices
                    have HX8 := Lib.hid (HXd.out.below hb)
                    have HQ8 := Lib.hid (HQd.out.below hb)
                    have HX108 := Lib.hid (HX10d.out.below hb)
                    have HX118 := Lib.hid (HX11d.out.below hb)
                    have HU8 : Hid (Below z5.heap.size z5 w8) := HUd.out.trans (hb.mono HUd.out.size)
                    have HC8 : Hid (w8.cell? ⟨gl, i * 9, none⟩ = some (.string y.nd.n)) := (hb.cell (World.block_lt_of_cell? wd _ HCd.out)).trans HCd.out
                    have HK8 := Lib.hid hkp
                    have HZD : Hid (w4.heap.size + 1 < wd.heap.size) := HX11d.out.lt
                    clear hb hkp HXd HQd HX10d HX11d HUd HCd
                    refine hK.out _ _ (⟨HQ8.out.cell 0, HC8.out⟩) (fun hHeld2 => ?_)
                    clear hK K hHeld
                    have hHeld := hHeld2
                    clear hHeld2
                    try simp only [Act.put, List.setIfInBounds_toArray, List.set_cons_zero, List.set_cons_succ, List.getElem_toArray, List.getElem_cons_succ, List.getElem_cons_zero]
                    refine wpAnyH_take (i := 11) (v := ?_) rfl (by kernel_rfl) (by kernel_rfl) (by kernel_rfl) (fun _ _ _ h => h) (Or.inl ⟨by rfl, ?_⟩) (by assumption) ?_
                    rotate_left
                    · intro z hSz
                      obtain ⟨q3, q4⟩ := hSz
                      go_simp
                      try with_reducible rfl
                    try simp only [Act.put, List.setIfInBounds_toArray, List.set_cons_zero, List.set_cons_succ, List.getElem_toArray, List.getElem_cons_succ, List.getElem_cons_zero]
                    refine wpAnyH_take (i := 12) (v := ?_) rfl (by kernel_rfl) (by kernel_rfl) (by kernel_rfl) (fun _ _ _ h => h) (Or.inl ⟨by rfl, ?_⟩) (by assumption) ?_
                    rotate_left
                    · intro z hSz
                      obtain ⟨q3, q4⟩ := hSz
                      go_simp
                      try with_reducible rfl
                    try simp only [Act.put, List.setIfInBounds_toArray, List.set_cons_zero, List.set_cons_succ, List.getElem_toArray, List.getElem_cons_succ, List.getElem_cons_zero]
                    refine wpAnyH_take (i := 13) (v := ?_) rfl (by kernel_rfl) (by kernel_rfl) (by kernel_rfl) (fun _ _ _ h => h) (Or.inl ⟨by rfl, ?_⟩) (by assumption) ?_
                    rotate_left
                    · intro z hSz
                      obtain ⟨q3, q4⟩ := hSz
                      go_simp
                      try with_reducible rfl
                    try simp only [Act.put, List.setIfInBounds_toArray, List.set_cons_zero, List.set_cons_succ, List.getElem_toArray, List.getElem_cons_succ, List.getElem_cons_zero]
                    have hth0 := HX108.out.there 4 rfl
                    have hth1 := HX118.out.there 2 rfl
                    refine wpAnyH_ready (rs := [14]) (by kernel_rfl) (by simp) ?_
                    refine AllReadyH.cons rfl (fun K hK => ?_) AllReadyH.nil
                    refine wp_store_mid 27 (.tmp 10) (.tmp 127) rfl (w4.heap.size) 0 #[.slice a5 (c3).ns.length c5, .slice b5 (c3).ts.length d5, .slice e5 (c3).bs.length f5, .int .u64 ((c3).fe : Nat)] rfl rfl hth0 rfl (all_oneCell_toArray (List.all_eq_true.1 (show List.all ([.slice a5 (c3).ns.length c5, .slice b5 (c3).ts.length d5, .slice e5 (c3).bs.length f5, .int .u64 ((c3).fe : Nat)] : List Value) (fun v => v.oneCell') = true from rfl))) ?_
                    have HQ8a := Lib.hid (bxn_far (P := w4.heap.size) (o := 0) (vs := [.slice a5 (c3).ns.length c5, .slice b5 (c3).ts.length d5, .slice e5 (c3).bs.length f5, .int .u64 ((c3).fe : Nat)]) HQ8.out (by have := HZS.out; omega))
                    have HC8a : Hid ((w8.setCells (w4.heap.size) 0 [.slice a5 (c3).ns.length c5, .slice b5 (c3).ts.length d5, .slice e5 (c3).bs.length f5, .int .u64 ((c3).fe : Nat)]).cell? ⟨gl, i * 9, none⟩ = some (.string y.nd.n)) := (grown_setCells _ _ _ _).cell HC8.out (fun e => by have e2 : gl = w4.heap.size := Option.some.inj e; have := HGL.out; omega)
                    refine hK.out _ _ (⟨HQ8a.out.cell 0, HC8a.out⟩) (fun hHeld2 => ?_)
                    clear hK K hHeld
                    have hHeld := hHeld2
                    clear hHeld2
                    try simp only [Act.put, List.getElem_toArray, List.getElem_cons_succ, List.getElem_cons_zero]
                    have HXo := Lib.hid (bxn_far (P := w4.heap.size) (o := 0) (vs := [.slice a5 (c3).ns.length c5, .slice b5 (c3).ts.length d5, .slice e5 (c3).bs.length f5, .int .u64 ((c3).fe : Nat)]) HX118.out (by omega))
                    have hth2 := HXo.out.there 2 rfl
                    refine wpAnyH_ready (rs := [15]) (by kernel_rfl) (by simp) ?_
                    refine AllReadyH.cons rfl (fun K hK => ?_) AllReadyH.nil
                    refine wp_store_mid 50 (.tmp 11) (.tmp 128) rfl (w4.heap.size + 1) 0 #[.int .i64 0, .string ⟨#[]⟩] rfl rfl hth2 rfl (all_oneCell_toArray (List.all_eq_true.1 (show List.all ([.int .i64 0, .string ⟨#[]⟩] : List Value) (fun v => v.oneCell') = true from rfl))) ?_
                    have HQ8b := Lib.hid (bxn_far (P := w4.heap.size + 1) (o := 0) (vs := [.int .i64 0, .string ⟨#[]⟩]) HQ8a.out (by have := HZS.out; omega))
                    have HC8b : Hid (((w8.setCells (w4.heap.size) 0 [.slice a5 (c3).ns.length c5, .slice b5 (c3).ts.length d5, .slice e5 (c3).bs.length f5, .int .u64 ((c3).fe : Nat)]).setCells (w4.heap.size + 1) 0 [.int .i64 0, .string ⟨#[]⟩]).cell? ⟨gl, i * 9, none⟩ = some (.string y.nd.n)) := (grown_setCells _ _ _ _).cell HC8a.out (fun e => by have e2 : gl = w4.heap.size + 1 := Option.some.inj e; have := HGL.out; omega)
                    refine hK.out _ _ (⟨HQ8b.out.cell 0, HC8b.out⟩) (fun hHeld2 => ?_)
                    clear hK K hHeld
                    have hHeld := hHeld2
                    clear hHeld2
                    try simp only [Act.put, List.getElem_toArray, List.getElem_cons_succ, List.getElem_cons_zero]
                    refine wpAnyH_done (by kernel_rfl) ?_ _
                    have HXm := Lib.hid (bxn_far (P := w4.heap.size + 1) (o := 0) (vs := [.int .i64 0, .string ⟨#[]⟩]) (HX108.out.all [.slice a5 (c3).ns.length c5, .slice b5 (c3).ts.length d5, .slice e5 (c3).bs.length f5, .int .u64 ((c3).fe : Nat)] rfl) (by omega))
                    have HXn := Lib.hid (HXo.out.all [.int .i64 0, .string ⟨#[]⟩] rfl)
                    have HXE := Lib.hid (bxn_far (P := w4.heap.size + 1) (o := 0) (vs := [.int .i64 0, .string ⟨#[]⟩]) (bxn_far (P := w4.heap.size) (o := 0) (vs := [.slice a5 (c3).ns.length c5, .slice b5 (c3).ts.length d5, .slice e5 (c3).bs.length f5, .int .u64 ((c3).fe : Nat)]) HX8.out (by have := HZS.out; omega)) (by have := HZS.out; omega))
                    have HXF := Lib.hid HXm.out
                    have HXG := Lib.hid HXn.out
                    have HKE := Lib.hid ((HK8.out.far (P := w4.heap.size) (by have := HZD.out; omega) 0 [.slice a5 (c3).ns.length c5, .slice b5 (c3).ts.length d5, .slice e5 (c3).bs.length f5, .int .u64 ((c3).fe : Nat)]).far (P := w4.heap.size + 1) (by have := HZD.out; omega) 0 [.int .i64 0, .string ⟨#[]⟩])
                    have HBE : Hid (Below w1.heap.size w1 ((w8.setCells (w4.heap.size) 0 [.slice a5 (c3).ns.length c5, .slice b5 (c3).ts.length d5, .slice e5 (c3).bs.length f5, .int .u64 ((c3).fe : Nat)]).setCells (w4.heap.size + 1) 0 [.int .i64 0, .string ⟨#[]⟩])) := below_setCells (below_setCells (HB5.out.trans (HU8.out.mono HB5.out.size)) (by have := HZS.out; omega) _ _) (by have := HZS.out; omega) _ _
                    clear HQ8a HC8a HQ8b HC8b HXo hth2 HXm HXn HX8 HQ8 HX108 HX118 HU8 HC8 HK8 hth0 hth1
                    generalize ((w8.setCells (w4.heap.size) 0 [.slice a5 (c3).ns.length c5, .slice b5 (c3).ts.length d5, .slice e5 (c3).bs.length f5, .int .u64 ((c3).fe : Nat)]).setCells (w4.heap.size + 1) 0 [.int .i64 0, .string ⟨#[]⟩]) = zE at *
                    have y0 : zE.cell? ⟨w4.heap.size, 0, none⟩ = some (.slice a5 (c3).ns.length c5) := HXF.out.cell 0
                    have y1 : zE.cell? ⟨w4.heap.size, 1, none⟩ = some (.slice b5 (c3).ts.length d5) := HXF.out.cell 1
                    have y2 : zE.cell? ⟨w4.heap.size, 2, none⟩ = some (.slice e5 (c3).bs.length f5) := HXF.out.cell 2
                    have y3 : zE.cell? ⟨w4.heap.size, 3, none⟩ = some (.int .u64 ((c3).fe : Nat)) := HXF.out.cell 3
                    have u1 : zE.cell? ⟨w4.heap.size + 1, 0, none⟩ = some (.int .i64 0) := HXG.out.cell 0
                    go_wp2_with fail
                    refine (HCH.out zE _ _ _ HKE.out.books).mono ?_
                    rintro e wf ⟨rfl, hb⟩
                    have HXE' := Lib.hid (HXE.out.below hb)
                    have HXF' := Lib.hid (HXF.out.below hb)
                    have HKE' := Lib.hid (HKE.out.keep hb)
                    have HBE' : Hid (Below w1.heap.size w1 wf) := HBE.out.trans (hb.mono HBE.out.size)
                    clear hb y0 y1 y2 y3 u1 HXE HXF HXG HKE HBE
                    go_upto_region 32 with fail
                    refine wp_region_list ?_
                    refine wpList_load_mid rfl 27 (.tmp 10) rfl (w4.heap.size) (0) rfl [.slice a5 (c3).ns.length c5, .slice b5 (c3).ts.length d5, .slice e5 (c3).bs.length f5, .int .u64 ((c3).fe : Nat)] _ (HXF'.out.range 0) Tryz.underlying27 rfl rfl ?_
                    have hth := HXE'.out.there 4 rfl
                    refine wpList_store_mid rfl 27 (.tmp 5) (.tmp 137) rfl (w1.heap.size) 0 #[.slice a5 (c3).ns.length c5, .slice b5 (c3).ts.length d5, .slice e5 (c3).bs.length f5, .int .u64 ((c3).fe : Nat)] rfl rfl hth rfl (all_oneCell_toArray (List.all_eq_true.1 (show List.all ([.slice a5 (c3).ns.length c5, .slice b5 (c3).ts.length d5, .slice e5 (c3).bs.length f5, .int .u64 ((c3).fe : Nat)] : List Value) (fun v => v.oneCell') = true from rfl))) ?_
                    rw [show (#[.slice a5 (c3).ns.length c5, .slice b5 (c3).ts.length d5, .slice e5 (c3).bs.length f5, .int .u64 ((c3).fe : Nat)] : Array Value).toList = [.slice a5 (c3).ns.length c5, .slice b5 (c3).ts.length d5, .slice e5 (c3).bs.length f5, .int .u64 ((c3).fe : Nat)] from rfl]
                    clear hth
                    have HXz := Lib.hid (HXE'.out.all [.slice a5 (c3).ns.length c5, .slice b5 (c3).ts.length d5, .slice e5 (c3).bs.length f5, .int .u64 ((c3).fe : Nat)] rfl)
                    have HKz : Hid (BkIn w1 (wf.setCells w1.heap.size 0 [.slice a5 (c3).ns.length c5, .slice b5 (c3).ts.length d5, .slice e5 (c3).bs.length f5, .int .u64 ((c3).fe : Nat)]) c3 (.slice a5 c3.ns.length c5) (.slice b5 c3.ts.length d5) (.slice e5 c3.bs.length f5)) := .inr ⟨wd, by have := HZD.out; have := HZS.out; omega, HKE'.out.far (by have := HZD.out; have := HZS.out; omega) 0 _⟩
                    have HBz : Hid (Below w1.heap.size w1 (wf.setCells w1.heap.size 0 [.slice a5 (c3).ns.length c5, .slice b5 (c3).ts.length d5, .slice e5 (c3).bs.length f5, .int .u64 ((c3).fe : Nat)])) := below_setCells HBE'.out (Nat.le_refl _) _ _
                    clear HXE' HXF' HKE' HBE'
                    refine wpList_nil ?_
                    go_wp2
                    go_roundg gg
                    case measure => omega
                    case rel => exact ⟨k + 1, c3, a5, b5, e5, c5, d5, f5, by have := HKG.out; omega, by simp, HC3.out, HXz.out, HKz.out, HBz.out⟩
                | succ gj =>
                  have hlj : j < m1.length := by rw [← HNL.out]; omega
                  have t2' : (j : Int) < (c2.ns.length : Int) := by omega
                  have t3' : IntKind.i64.wrap ((j : Int) + 1) = (j : Int) + 1 := by rw [IntKind.wrap_i64]; have := HM16.out; omega
                  have t4' : (0 : Int) ≤ (j : Int) := by omega
                  obtain ⟨gm, om, rfl, -, hgl, hat⟩ := HRM.out (by omega)
                  have hatk : At z5 gm (om + j * 6) m1[j] := hat j hlj
                  obtain ⟨d0', d1', d2', d3', d4', d5'⟩ := at_nd hatk
                  have e0' := (HU1.out.cell (by exact hgl)).trans d0'
                  have e1' := (HU1.out.cell (by exact hgl)).trans d1'
                  have e2' := (HU1.out.cell (by exact hgl)).trans d2'
                  have e3' := (HU1.out.cell (by exact hgl)).trans d3'
                  have e4' := (HU1.out.cell (by exact hgl)).trans d4'
                  have e5' := (HU1.out.cell (by exact hgl)).trans d5'
                  have HXR := Lib.hid (HX5.out.below HU1.out)
                  have HQR := Lib.hid (HQ5.out.below HU1.out)
                  have HUX := Lib.hid (HUS.out m1[j] (List.getElem_mem hlj))
                  have HTK : Hid (m1.take (j + 1) = m1.take j ++ [m1[j]]) := List.take_succ_eq_append_getElem hlj
                  have HFL : Hid (((m1.take j).filter (fun y => decide (canE c2 x.td.n y.nd.n = 0))).length ≤ 16) := by show _ ≤ _; have h1 := List.length_filter_le (fun y : NdM => decide (canE c2 x.td.n y.nd.n = 0)) (m1.take j); rw [List.length_take] at h1; have := HM16.out; omega
                  have HJG := Lib.hid hjg
                  clear d0' d1' d2' d3' d4' d5' hatk hat hgl hjg
                  generalize m1[j] = y at *
                  clear hlj
                  obtain ⟨ry, hry⟩ : ∃ ry, ry = r1.alloc (.cells #[.string y.nd.n, .int .i64 y.nd.z0, .int .i64 y.nd.z1, .int .i64 y.nd.z2, .slice y.a2 y.nd.ls.length y.c2, .slice y.a3 y.nd.ts.length y.c3] 45) := ⟨_, rfl⟩
                  have HNX : Hid (Hd.Bxn ry r1.heap.size [.string y.nd.n, .int .i64 y.nd.z0, .int .i64 y.nd.z1, .int .i64 y.nd.z2, .slice y.a2 y.nd.ls.length y.c2, .slice y.a3 y.nd.ts.length y.c3]) := by rw [hry]; exact Hd.Bxn.made r1 _ _
                  have HYB : Hid (Below r1.heap.size r1 ry) := by rw [hry]; exact al _ _
                  have HWY := Lib.hid hry
                  clear hry
                  generalize hn1 : y.nd.ls.length = n1 at *
                  generalize hn2 : y.nd.ts.length = n2 at *
                  have HN12 := Lib.hid (And.intro hn1 hn2)
                  clear hn1 hn2
                  go_upto_region 21 with fail
                  rw [← HWY.out]
                  clear e0' e1' e2' e3' e4' e5'
                  have HXY := Lib.hid (HXR.out.below HYB.out)
                  have HQY := Lib.hid (HQR.out.below HYB.out)
                  have HU2 : Hid (Below z5.heap.size z5 ry) := HU1.out.trans (HYB.out.mono HU1.out.size)
                  have HOY := Lib.hid (HAO.out.keep HYB.out)
                  have y0 : ry.cell? ⟨w1.heap.size, 0, none⟩ = some (.slice (some ⟨gm, om, none⟩) (c2).ns.length c4) := HXY.out.cell 0
                  have y1 : ry.cell? ⟨w1.heap.size, 1, none⟩ = some (.slice b4 (c2).ts.length d4) := HXY.out.cell 1
                  have y2 : ry.cell? ⟨w1.heap.size, 2, none⟩ = some (.slice e4 (c2).bs.length f4) := HXY.out.cell 2
                  have y3 : ry.cell? ⟨w1.heap.size, 3, none⟩ = some (.int .u64 ((c2).fe : Nat)) := HXY.out.cell 3
                  have k0 : ry.cell? ⟨s1.heap.size, 0, none⟩ = some (.string x.td.n) := HQY.out.cell 0
                  have n0 : ry.cell? ⟨r1.heap.size, 0, none⟩ = some (.string y.nd.n) := HNX.out.cell 0
                  clear HWY HXR HQR HAO HYB HU1
                  go_wp2_with fail
                  refine (HCN.out y.nd.n ry HU2.out).mono ?_
                  rintro e r2 ⟨rfl, hb⟩
                  have HX2 := Lib.hid (HXY.out.below hb)
                  have HNY := Lib.hid (HNX.out.below hb)
                  have HU3 : Hid (Below z5.heap.size z5 r2) := HU2.out.trans (hb.mono HU2.out.size)
                  have HO2 := Lib.hid (HOY.out.keep hb)
                  clear hb y0 y1 y2 y3 k0 n0 HXY HQY HNX HU2 HOY
                  by_cases h0 : canE c2 x.td.n y.nd.n = 0
                  · have HSL : Hid (((m1.take (j + 1)).filter (fun y => decide (canE c2 x.td.n y.nd.n = 0))).map (mkL c2) = ((m1.take j).filter (fun y => decide (canE c2 x.td.n y.nd.n = 0))).map (mkL c2) ++ [mkL c2 y]) := by show _ = _; rw [HTK.out, List.filter_append, List.map_append, List.filter_cons_of_pos (by simpa using h0)]; rfl
                    rw [h0]
                    clear h0
                    have hlt : (((m1.take j).filter (fun y => decide (canE c2 x.td.n y.nd.n = 0))).map (mkL c2)).length + 1 ≤ 4096 := by rw [List.length_map]; have := HFL.out; omega
                    have HMX : Hid ((((m1.take j).filter (fun y => decide (canE c2 x.td.n y.nd.n = 0))).map (mkL c2)).length + 1 ≤ maxLen) := by show _ ≤ _; unfold maxLen; omega
                    have HBY : Hid (((((m1.take j).filter (fun y => decide (canE c2 x.td.n y.nd.n = 0))).map (mkL c2)).length + 1) * 112 ≤ 140737488355328) := by show _ ≤ _; omega
                    clear hlt
                    have HSN2 : Hid (∀ (w5 : World) (v4 : Value), w5.ownsRow z5.heap.size 47 9 v4 ((((m1.take j).filter (fun y => decide (canE c2 x.td.n y.nd.n = 0))).map (mkL c2)).length + 1) (flat (((m1.take j).filter (fun y => decide (canE c2 x.td.n y.nd.n = 0))).map (mkL c2)) ++ [.string y.nd.n, .int .i64 y.nd.z0, .int .i64 y.nd.z1, .int .i64 y.nd.z2, .slice y.a2 n1 y.c2, .slice y.a3 n2 y.c3, .int .i64 (us0 c2 y.nd.n), .int .i64 (us1 c2 y.nd.n), .int .i64 (us2 c2 y.nd.n)]) → Own w5 z5.heap.size 47 v4 (((m1.take (j + 1)).filter (fun y => decide (canE c2 x.td.n y.nd.n = 0))).map (mkL c2))) := by
                      intro w5 v4 h
                      rw [HSL.out]
                      refine Own.snoc (x := mkL c2 y) ?_
                      rw [← HN12.out.1, ← HN12.out.2] at h
                      exact h
                    have HON1 : Hid (∀ u ∈ ([.string y.nd.n, .int .i64 y.nd.z0, .int .i64 y.nd.z1, .int .i64 y.nd.z2, .slice y.a2 n1 y.c2, .slice y.a3 n2 y.c3, .int .i64 (us0 c2 y.nd.n), .int .i64 (us1 c2 y.nd.n), .int .i64 (us2 c2 y.nd.n)] : List Value), u.oneCell' = true) := List.all_eq_true.1 (show List.all ([.string y.nd.n, .int .i64 y.nd.z0, .int .i64 y.nd.z1, .int .i64 y.nd.z2, .slice y.a2 n1 y.c2, .slice y.a3 n2 y.c3, .int .i64 (us0 c2 y.nd.n), .int .i64 (us1 c2 y.nd.n), .int .i64 (us2 c2 y.nd.n)] : List Value) (fun v => v.oneCell') = true from rfl)
                    clear HSL HTK HFL
                    have y0 : r2.cell? ⟨w1.heap.size, 0, none⟩ = some (.slice (some ⟨gm, om, none⟩) (c2).ns.length c4) := HX2.out.cell 0
                    have y1 : r2.cell? ⟨w1.heap.size, 1, none⟩ = some (.slice b4 (c2).ts.length d4) := HX2.out.cell 1
                    have y2 : r2.cell? ⟨w1.heap.size, 2, none⟩ = some (.slice e4 (c2).bs.length f4) := HX2.out.cell 2
                    have y3 : r2.cell? ⟨w1.heap.size, 3, none⟩ = some (.int .u64 ((c2).fe : Nat)) := HX2.out.cell 3
                    have n0 : r2.cell? ⟨r1.heap.size, 0, none⟩ = some (.string y.nd.n) := HNY.out.cell 0
                    go_wp2_with fail
                    refine (HUX.out r2 HU3.out).mono ?_
                    rintro e r3 ⟨rfl, hb⟩
                    have HNZ := Lib.hid (HNY.out.below hb)
                    have HU4 : Hid (Below z5.heap.size z5 r3) := HU3.out.trans (hb.mono HU3.out.size)
                    have HOZ := Lib.hid (HO2.out.keep hb)
                    clear hb y0 y1 y2 y3 n0 HNY HU3 HO2 HX2 HUX
                    generalize us0 c2 y.nd.n = u0 at *
                    generalize us1 c2 y.nd.n = u1 at *
                    generalize us2 c2 y.nd.n = u2 at *
                    generalize ((m1.take j).filter (fun y => decide (canE c2 x.td.n y.nd.n = 0))).map (mkL c2) = ls at *
                    have HNA := Lib.hid (HNZ.out.below (al r3 (.cells #[.int .i64 u0, .int .i64 u1, .int .i64 u2] 39)))
                    have n0 : (r3.alloc (.cells #[.int .i64 u0, .int .i64 u1, .int .i64 u2] 39)).cell? ⟨r1.heap.size, 0, none⟩ = some (.string y.nd.n) := HNA.out.cell 0
                    have n1' : (r3.alloc (.cells #[.int .i64 u0, .int .i64 u1, .int .i64 u2] 39)).cell? ⟨r1.heap.size, 1, none⟩ = some (.int .i64 y.nd.z0) := HNA.out.cell 1
                    have n2' : (r3.alloc (.cells #[.int .i64 u0, .int .i64 u1, .int .i64 u2] 39)).cell? ⟨r1.heap.size, 2, none⟩ = some (.int .i64 y.nd.z1) := HNA.out.cell 2
                    have n3' : (r3.alloc (.cells #[.int .i64 u0, .int .i64 u1, .int .i64 u2] 39)).cell? ⟨r1.heap.size, 3, none⟩ = some (.int .i64 y.nd.z2) := HNA.out.cell 3
                    have n4' : (r3.alloc (.cells #[.int .i64 u0, .int .i64 u1, .int .i64 u2] 39)).cell? ⟨r1.heap.size, 4, none⟩ = some (.slice y.a2 n1 y.c2) := HNA.out.cell 4
                    have n5' : (r3.alloc (.cells #[.int .i64 u0, .int .i64 u1, .int .i64 u2] 39)).cell? ⟨r1.heap.size, 5, none⟩ = some (.slice y.a3 n2 y.c3) := HNA.out.cell 5
                    have hbx : Below r3.heap.size r3 ((r3.alloc (.cells #[.int .i64 u0, .int .i64 u1, .int .i64 u2] 39)).alloc (.cells #[.string y.nd.n, .int .i64 y.nd.z0, .int .i64 y.nd.z1, .int .i64 y.nd.z2, .slice y.a2 n1 y.c2, .slice y.a3 n2 y.c3, .int .i64 u0, .int .i64 u1, .int .i64 u2] 47)) := (al r3 _).alloc (by simp) _
                    have HU5 : Hid (Below z5.heap.size z5 ((r3.alloc (.cells #[.int .i64 u0, .int .i64 u1, .int .i64 u2] 39)).alloc (.cells #[.string y.nd.n, .int .i64 y.nd.z0, .int .i64 y.nd.z1, .int .i64 y.nd.z2, .slice y.a2 n1 y.c2, .slice y.a3 n2 y.c3, .int .i64 u0, .int .i64 u1, .int .i64 u2] 47))) := HU4.out.trans (hbx.mono HU4.out.size)
                    have HO5 := Lib.hid (HOZ.out.keep hbx)
                    have HOL := Lib.hid HO5.out.lt
                    have HN5 : Hid (∀ j u, ([.string y.nd.n, .int .i64 y.nd.z0, .int .i64 y.nd.z1, .int .i64 y.nd.z2, .slice y.a2 n1 y.c2, .slice y.a3 n2 y.c3, .int .i64 u0, .int .i64 u1, .int .i64 u2] : List Value)[j]? = some u → ((r3.alloc (.cells #[.int .i64 u0, .int .i64 u1, .int .i64 u2] 39)).alloc (.cells #[.string y.nd.n, .int .i64 y.nd.z0, .int .i64 y.nd.z1, .int .i64 y.nd.z2, .slice y.a2 n1 y.c2, .slice y.a3 n2 y.c3, .int .i64 u0, .int .i64 u1, .int .i64 u2] 47)).cell? ((⟨r3.heap.size + 1, 0, none⟩ : Addr).add j) = some u) := by
                      have := Rg.news_new (r3.alloc (.cells #[.int .i64 u0, .int .i64 u1, .int .i64 u2] 39)) 47 [.string y.nd.n, .int .i64 y.nd.z0, .int .i64 y.nd.z1, .int .i64 y.nd.z2, .slice y.a2 n1 y.c2, .slice y.a3 n2 y.c3, .int .i64 u0, .int .i64 u1, .int .i64 u2]
                      rw [World.size_alloc] at this
                      exact this
                    have HSZ : Hid (z5.heap.size ≤ ((r3.alloc (.cells #[.int .i64 u0, .int .i64 u1, .int .i64 u2] 39)).alloc (.cells #[.string y.nd.n, .int .i64 y.nd.z0, .int .i64 y.nd.z1, .int .i64 y.nd.z2, .slice y.a2 n1 y.c2, .slice y.a3 n2 y.c3, .int .i64 u0, .int .i64 u1, .int .i64 u2] 47)).heap.size) := HU5.out.size
                    clear hbx HNA HNZ HOZ
                    go_wp2_with (at_builtin; (refine wpList_append_own_at _ rfl _ _ 31 rfl z5.heap.size 47 i0 _ 9 112 Tryz.underlying31 hi hq0 hq1 hq2 rfl (by omega) _ _ _ rfl HO5.out ⟨r3.heap.size + 1, 0, none⟩ 1 1 [.string y.nd.n, .int .i64 y.nd.z0, .int .i64 y.nd.z1, .int .i64 y.nd.z2, .slice y.a2 n1 y.c2, .slice y.a3 n2 y.c3, .int .i64 u0, .int .i64 u1, .int .i64 u2] rfl rfl HN5.out HON1.out HMX.out HBY.out HSZ.out ?_); intro v4 w5 hown hg5 hnil hob; have HO6 := Lib.hid (HSN2.out _ _ hown); have HU6 : Hid (Below z5.heap.size z5 w5) := (HU5.out.grown hg5 HU5.out.size (fun g hg => (HOL.out g hg).1)); clear hown hg5 hnil hob)
                    go_wp2
                    go_roundg gj
                    case measure => omega
                    case rel => exact ⟨j + 1, by have := HJG.out; omega, by simp, HO6.out, HU6.out⟩
                  · have HSL : Hid (((m1.take (j + 1)).filter (fun y => decide (canE c2 x.td.n y.nd.n = 0))).map (mkL c2) = ((m1.take j).filter (fun y => decide (canE c2 x.td.n y.nd.n = 0))).map (mkL c2)) := by show _ = _; rw [HTK.out, List.filter_append, List.filter_cons_of_neg (by simpa using h0), List.filter_nil, List.append_nil]
                    have ho6 := HO2.out
                    rw [← HSL.out] at ho6
                    have HO6 := Lib.hid ho6
                    clear ho6
                    have u5 : ((canE c2 x.td.n y.nd.n : Int) == 0) = false := by rw [beq_eq_false_iff_ne]; omega
                    have u5b : ¬ (canE c2 x.td.n y.nd.n : Int) = 0 := by omega
                    clear h0 HSL HTK HO2 HNY HX2 HUX
                    go_wp2
                    go_roundg gj
                    case measure => omega
                    case rel => exact ⟨j + 1, by have := HJG.out; omega, by simp, HO6.out, HU3.out⟩
            · have u2 : ((r : Int) != 0) = true := by simp; omega
              have u2b : ¬ (r : Int) = 0 := by omega
              clear hr HKP HX10 HX11 HQ4
              go_wp2
              go_roundg gg
              case measure => omega
              case rel => exact ⟨k + 1, c, a1, g1, p1, d1, h1, q1, by have := HKG.out; omega, by simp, HC.out, HX4.out, HK4.out, HB4.out⟩
    | succ gg =>
      have hlk : k < mn.length := by omega
      have t2 : (k : Int) < (mn.length : Int) := by omega
      have t3 : IntKind.i64.wrap ((k : Int) + 1) = (k : Int) + 1 := by rw [IntKind.wrap_i64]; have := HLNmn.out; omega
      have t4 : (0 : Int) ≤ (k : Int) := by omega
      obtain ⟨g, off, rfl, -, hgl, hat⟩ := HRN.out (by omega)
      have ha : At w g (off + k * 6) mn[k] := hat k hlk
      have HDF := Lib.hid (HDN.out _ (List.getElem_mem hlk))
      generalize mn[k] = x at *
      have HBW : Hid (Below w.heap.size w v1) := HB1.out.trans (HB.out.mono HB1.out.size)
      have hrow : v1.rangeAt g (off + k * 6) [.string x.nd.n, .int .i64 x.nd.z0, .int .i64 x.nd.z1, .int .i64 x.nd.z2, .slice x.a2 x.nd.ls.length x.c2, .slice x.a3 x.nd.ts.length x.c3] := fun i u hj => (HBW.out.cell (by exact hgl)).trans (ha i u hj)
      have HKG := Lib.hid hkg
      clear hkg hat ha hgl hlk
      go_upto_region 6 with fail
      refine wp_region_list ?_
      refine wpList_plain rfl fun K hK => ?_
      go_simp
      refine hK _ _ ?_
      clear hK K
      refine wpList_plain rfl fun K hK => ?_
      go_simp
      refine hK _ _ ?_
      clear hK K
      refine wpList_load_mid rfl 45 (.tmp 27) rfl (g) (off + k * 6) rfl [.string x.nd.n, .int .i64 x.nd.z0, .int .i64 x.nd.z1, .int .i64 x.nd.z2, .slice x.a2 x.nd.ls.length x.c2, .slice x.a3 x.nd.ts.length x.c3] _ (hrow) Tryz.underlying45 rfl rfl ?_
      refine wpList_plain rfl fun K hK => ?_
      go_simp
      refine hK _ _ ?_
      clear hK K
      refine wpList_plain rfl fun K hK => ?_
      go_simp
      refine hK _ _ ?_
      clear hK K
      obtain ⟨th1, hbz, hx1⟩ := one_made v1 [.string ⟨#[]⟩, .int .i64 0, .int .i64 0, .int .i64 0, .slice none 0 0, .slice none 0 0] [.string x.nd.n, .int .i64 x.nd.z0, .int .i64 x.nd.z1, .int .i64 x.nd.z2, .slice x.a2 x.nd.ls.length x.c2, .slice x.a3 x.nd.ts.length x.c3] 45 rfl
      refine wpList_store_mid rfl 45 (.tmp 7) (.tmp 28) rfl (v1.heap.size) 0 #[.string x.nd.n, .int .i64 x.nd.z0, .int .i64 x.nd.z1, .int .i64 x.nd.z2, .slice x.a2 x.nd.ls.length x.c2, .slice x.a3 x.nd.ts.length x.c3] rfl rfl th1 rfl (all_oneCell_toArray (List.all_eq_true.1 (show List.all ([.string x.nd.n, .int .i64 x.nd.z0, .int .i64 x.nd.z1, .int .i64 x.nd.z2, .slice x.a2 x.nd.ls.length x.c2, .slice x.a3 x.nd.ts.length x.c3] : List Value) (fun v => v.oneCell') = true from rfl))) ?_
      rw [show (#[.string x.nd.n, .int .i64 x.nd.z0, .int .i64 x.nd.z1, .int .i64 x.nd.z2, .slice x.a2 x.nd.ls.length x.c2, .slice x.a3 x.nd.ts.length x.c3] : Array Value).toList = [.string x.nd.n, .int .i64 x.nd.z0, .int .i64 x.nd.z1, .int .i64 x.nd.z2, .slice x.a2 x.nd.ls.length x.c2, .slice x.a3 x.nd.ts.length x.c3] from rfl]
      clear th1 hrow
      generalize (v1.alloc (.cells #[.string ⟨#[]⟩, .int .i64 0, .int .i64 0, .int .i64 0, .slice none 0 0, .slice none 0 0] 45)).setCells v1.heap.size 0 [.string x.nd.n, .int .i64 x.nd.z0, .int .i64 x.nd.z1, .int .i64 x.nd.z2, .slice x.a2 x.nd.ls.length x.c2, .slice x.a3 x.nd.ts.length x.c3] = v2 at *
      have HX0 := Lib.hid (HX.out.below hbz)
      have HQ := Lib.hid hx1
      have HK0 := Lib.hid (HK.out.keep hbz)
      have HB0 : Hid (Below w1.heap.size w1 v2) := HB.out.trans (hbz.mono HB.out.size)
      have HW0 : Hid (Below w.heap.size w v2) := HB1.out.trans (HB0.out.mono HB1.out.size)
      have HZQ : Hid (w1.heap.size < v1.heap.size) := HX.out.lt
      clear hbz hx1 HX HK HB HBW
      refine wpList_nil ?_
      by_cases h20 : k < 20
      · have u0 : (k : Int) < 20 := by omega
        have u0b : decide ((k : Int) < 20) = true := decide_eq_true u0
        obtain ⟨c3, r, hd, hc3⟩ : ∃ c3 r, doF c (oNde x.nd) = (c3, r, ByteArray.empty) ∧ chkB c3 = true ∧ c3.fe = 0 := ⟨(adN c x.nd).1, (adN c x.nd).2, do_nde HC.out.1 x.nd, chk_of_rb ((rb_of_chk HC.out.1).adN x.nd), (adN_fe c x.nd).trans HC.out.2⟩
        have HC3 := Lib.hid hc3
        have HDO : Hid (∀ z, Below w.heap.size w z → Books z z.heap.size (.slice a1 c.ns.length d1) (.slice g1 c.ts.length h1) (.slice p1 c.bs.length q1) c → Calls Tryz.prog 21 #[.agg #[.slice a1 c.ns.length d1, .slice g1 c.ts.length h1, .slice p1 c.bs.length q1, .int .u64 (c.fe : Nat)], .agg #[.int .u8 1, .string x.nd.n, .int .i64 x.nd.z0, .int .i64 x.nd.z1, .int .i64 x.nd.z2, .slice x.a2 x.nd.ls.length x.c2, .slice x.a3 x.nd.ts.length x.c3, .string ⟨#[]⟩, .int .i64 0, .int .i64 0, .int .i64 0, .slice none 0 0, .slice none 0 0, .string ⟨#[]⟩, .string ⟨#[]⟩, .int .i64 0, .string ⟨#[]⟩, .string ⟨#[]⟩, .int .u64 0]] z fun e w' => ∃ vn' vt' vb', e = .returned (.tuple #[.agg #[vn', vt', vb', .int .u64 (c3.fe : Nat)], .agg #[.int .i64 (r : Nat), .string ⟨#[]⟩]]) ∧ Kept z w' c3 vn' vt' vb' ∧ Below z.heap.size z w') := fun z hbz hz => do_use c c3 r ByteArray.empty _ _ _ (oNde x.nd) x.a2 x.a3 none none x.c2 x.c3 0 0 z hz (HDF.out.1.on hbz) HDF.out.2 (deepT0 z _ rfl rfl) fitT0 ⟨fitS0, fitS0⟩ hd
        clear hd hc3 h20
        go_upto_region 8 with fail
        clear u0 u0b
        refine wp_region_list ?_
        refine wpList_load_mid rfl 27 (.tmp 5) rfl (w1.heap.size) (0) rfl [.slice a1 c.ns.length d1, .slice g1 c.ts.length h1, .slice p1 c.bs.length q1, .int .u64 (c.fe : Nat)] _ (HX0.out.range 0) Tryz.underlying27 rfl rfl ?_
        refine wpList_load_mid rfl 45 (.tmp 7) rfl (v1.heap.size) (0) rfl [.string x.nd.n, .int .i64 x.nd.z0, .int .i64 x.nd.z1, .int .i64 x.nd.z2, .slice x.a2 x.nd.ls.length x.c2, .slice x.a3 x.nd.ts.length x.c3] _ (HQ.out.range 0) Tryz.underlying45 rfl rfl ?_
        refine wpList_plain rfl fun K hK => ?_
        go_simp
        refine hK _ _ ?_
        clear hK K
        refine wpList_plain rfl fun K hK => ?_
        go_wp2_with fail
        refine (HDO.out v2 HW0.out (HK0.out.books HB0.out)).mono ?_
        rintro e v3 ⟨v1, v2, v3, rfl, hkp, hb⟩
        obtain ⟨⟨a5, c5, rfl⟩, ⟨b5, d5, rfl⟩, ⟨e5, f5, rfl⟩⟩ := hkp.slices
        refine hK _ _ ?_
        clear hK K
        have HX1' := Lib.hid (HX0.out.below hb)
        have HB1' : Hid (Below w1.heap.size w1 v3) := HB0.out.trans (hb.mono HB0.out.size)
        have HK1 := Lib.hid hkp
        have HZ0 : Hid (w1.heap.size < v2.heap.size) := HX0.out.lt
        clear hb hkp HX0 HK0 HB0 HQ HDO
        refine wpList_plain rfl fun K hK => ?_
        go_simp
        refine hK _ _ ?_
        clear hK K
        refine wpList_plain rfl fun K hK => ?_
        go_simp
        refine hK _ _ ?_
        clear hK K
        refine wpList_plain rfl fun K hK => ?_
        go_simp
        refine hK _ _ ?_
        clear hK K
        have hth := HX1'.out.there 4 rfl
        refine wpList_store_mid rfl 27 (.tmp 5) (.tmp 36) rfl (w1.heap.size) 0 #[.slice a5 (c3).ns.length c5, .slice b5 (c3).ts.length d5, .slice e5 (c3).bs.length f5, .int .u64 ((c3).fe : Nat)] rfl rfl hth rfl (all_oneCell_toArray (List.all_eq_true.1 (show List.all ([.slice a5 (c3).ns.length c5, .slice b5 (c3).ts.length d5, .slice e5 (c3).bs.length f5, .int .u64 ((c3).fe : Nat)] : List Value) (fun v => v.oneCell') = true from rfl))) ?_
        rw [show (#[.slice a5 (c3).ns.length c5, .slice b5 (c3).ts.length d5, .slice e5 (c3).bs.length f5, .int .u64 ((c3).fe : Nat)] : Array Value).toList = [.slice a5 (c3).ns.length c5, .slice b5 (c3).ts.length d5, .slice e5 (c3).bs.length f5, .int .u64 ((c3).fe : Nat)] from rfl]
        clear hth
        have HX9 := Lib.hid (HX1'.out.all [.slice a5 (c3).ns.length c5, .slice b5 (c3).ts.length d5, .slice e5 (c3).bs.length f5, .int .u64 ((c3).fe : Nat)] rfl)
        have HK9 : Hid (BkIn w1 (v3.setCells w1.heap.size 0 [.slice a5 (c3).ns.length c5, .slice b5 (c3).ts.length d5, .slice e5 (c3).bs.length f5, .int .u64 ((c3).fe : Nat)]) c3 (.slice a5 c3.ns.length c5) (.slice b5 c3.ts.length d5) (.slice e5 c3.bs.length f5)) := .inr ⟨v2, HZ0.out, HK1.out.far HZ0.out 0 _⟩
        have HB9 : Hid (Below w1.heap.size w1 (v3.setCells w1.heap.size 0 [.slice a5 (c3).ns.length c5, .slice b5 (c3).ts.length d5, .slice e5 (c3).bs.length f5, .int .u64 ((c3).fe : Nat)])) := below_setCells HB1'.out (Nat.le_refl _) _ _
        clear HX1' HB1' HK1
        refine wpList_nil ?_
        go_wp2
        go_roundg gg
        case measure => omega
        case rel => exact ⟨k + 1, c3, a5, b5, e5, c5, d5, f5, by have := HKG.out; omega, by simp, HC3.out, HX9.out, HK9.out, HB9.out⟩
      · have u0 : ¬ (k : Int) < 20 := by omega
        have u0b : decide ((k : Int) < 20) = false := decide_eq_false u0
        clear h20 HQ
        go_wp2
        go_roundg gg
        case measure => omega
        case rel => exact ⟨k + 1, c, a1, g1, p1, d1, h1, q1, by have := HKG.out; omega, by simp, HC.out, HX0.out, HK0.out, HB0.out⟩
end Bo
end Go.Proofs.YthbmnkeigmbbdaaGreat
