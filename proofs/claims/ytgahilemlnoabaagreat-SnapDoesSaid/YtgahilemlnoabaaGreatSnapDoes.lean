/-
  LAW: SnapDoes.
-/
import Derived.Test.YtgahilemlnoabaaGreatSnC
namespace Go.Proofs.YtgahilemlnoabaaGreat
open Go.RowKit Go.Lib Go.Sort
namespace Dk
open Hd (Bx4 OwnI)
theorem smB_same (i t : Nat) (ks : List Int) (d : ByteArray) : smB i t ks d i t ks d = true := by unfold smB; simp
theorem up_of {fs : List Fl} {dn : Bool} (h : lsE fs dn = 0) : chkN fs = 0 ∧ dn = false := by
  unfold lsE rdE rdN at h
  by_cases hz : chkN fs = 0
  · cases dn with
    | false => exact ⟨hz, rfl⟩
    | true => simp [hz] at h
  · simp [hz] at h
/-- Saving, by the program and by the document: the same. -/
theorem both_save (fs : List Fl) (dn : Bool) (fu : Int) (h40 : fs.length * 40 ≤ 140737488355328) (hs : ∀ f ∈ fs, f.da.size ≤ 140737488355328) (hlo : -9223372036854775808 ≤ fu) (hhi : fu ≤ 9223372036854775807) (i t : Nat) (ks : List Int) (d : ByteArray) (hi : i < 2 ^ 64) (ht : t < 2 ^ 64) :
    ∃ O : Out, (∀ u v x, Files x x.heap.size u fs → Ints x x.heap.size v ks → Calls Tryz.prog 7 #[.agg #[u, .bool dn, .int .i64 fu], .agg #[.int .u64 (i : Nat), .int .u64 (t : Nat), v, .string d]] x (DoW x (.slice none 0 0) O.fs O.dn O.fu O.r)) ∧
      (∀ u v x, Files x x.heap.size u fs → Ints x x.heap.size v ks → Calls Tryz.prog 8 #[.agg #[u, .bool dn, .int .i64 fu], .agg #[.int .u64 (i : Nat), .int .u64 (t : Nat), v, .string d]] x (DoW x (.slice none 0 0) O.fs O.dn O.fu O.r)) := by
  by_cases h : svE fs dn i t ks d = 0
  · have hc : Hd.chkS i t ks d = 0 := Decidable.byContradiction fun e => by unfold svE at h; rw [if_neg e] at h; omega
    have hr : rfN fs dn i = 0 := by unfold svE at h; rw [if_pos hc] at h; exact h
    have hl : lsE fs dn = 0 := Decidable.byContradiction fun e => by unfold rfN at hr; rw [if_pos e] at hr; exact e hr
    obtain ⟨hz, rfl⟩ := up_of hl
    exact ⟨seqO nSn nSt (snC i t (ks.map Int.toNat) d) fs false fu 4, fun u v x hx hk => save_any 140737488355328 (by omega) (by omega) u fs fu hz hs hlo hhi i t v ks d hi ht hc hr x hx hk, fun u v x hx hk => saver_ok u fu fs i t v ks d hi ht hc hr hz hs hlo hhi x hx hk⟩
  · exact ⟨⟨(nonO fs dn fu).fs, (nonO fs dn fu).dn, (nonO fs dn fu).fu, svE fs dn i t ks d⟩, fun u v x hx hk => save_no u dn fu fs i t v ks d x hx hk hi ht h, fun u v x hx hk => saver_no u dn fu fs h40 i t v ks d x hx hk h⟩
theorem Bx4.next {x x' : World} {B : Nat} {a b c d : Value} (h : Bx4 x B a b c d) (hb : Below x.heap.size x x') (o : Obj) :
    Bx4 (x'.alloc o) B a b c d ∧ x'.cell? ⟨B, 0, none⟩ = some a ∧ x'.cell? ⟨B, 1, none⟩ = some b ∧ x'.cell? ⟨B, 2, none⟩ = some c ∧ x'.cell? ⟨B, 3, none⟩ = some d ∧ B < x'.heap.size :=
  ⟨h.below (hb.alloc hb.size _), (h.below hb).cells.1, (h.below hb).cells.2.1, (h.below hb).cells.2.2.1, (h.below hb).cells.2.2.2, (h.below hb).lt⟩
theorem St.obj {w x : World} {B : Nat} {v : Value} {dn : Bool} {fu : Int} {fs : List Fl} (h : St w B x v dn fu fs) (o : Obj) : St w B (x.alloc o) v dn fu fs := h.keep ((Below.refl _ _).alloc (Nat.le_refl _) _)
theorem St.fresh {w x : World} {v : Value} {dn : Bool} {fu : Int} {fs : List Fl} (hb : Below w.heap.size w x) (hf : Files x x.heap.size v fs) : St w x.heap.size (x.alloc (.cells #[v, .bool dn, .int .i64 fu] 24)) v dn fu fs :=
  ⟨hb.size, by simp, hb.alloc hb.size _, Dx.made _ _ _ _, hf.al _⟩
set_option maxRecDepth 100000 in
set_option maxHeartbeats 12000000 in
theorem snapDoes (dv : Value) (dn : Bool) (fu : Int) (fs : List Fl) (i t : Nat) (v : Value) (ks : List Int) (d : ByteArray) (hi : i < 2 ^ 64) (ht : t < 2 ^ 64) (h40 : fs.length * 40 ≤ 140737488355328) (hs : ∀ f ∈ fs, f.da.size ≤ 140737488355328) (hlo : -9223372036854775808 ≤ fu) (hhi : fu ≤ 9223372036854775807) (w : World) (hf : Files w w.heap.size dv fs) (hk : Ints w w.heap.size v ks) :
    Calls Tryz.prog 3 #[.agg #[dv, .bool dn, .int .i64 fu], .agg #[.int .u64 (i : Nat), .int .u64 (t : Nat), v, .string d]] w fun e w' => e = .returned (.bool true) ∧ Below w.heap.size w w' := by
  have HV := Lib.hid hf
  have HF := Lib.hid hf.fine
  have HL := Lib.hid hf.len
  have HCO := Lib.hid (fun u x hx => copy_ref u dn fu fs x hx h40)
  have hl1 := fun u x hx => load_snap_any u dn fu fs x hx
  have hl2 := fun u x hx => load_ref5 u dn fu fs x hx
  unfold LoadS at hl1 hl2
  have HML : Hid ((lsM fs dn).length ≤ 1000 ∧ ∀ k ∈ lsM fs dn, k ≤ 7) := by
    show _ ∧ _
    unfold lsM
    split
    · exact ⟨Nat.le_trans (Hd.sdM_ok _).1 (by omega), (Hd.sdM_ok _).2⟩
    · simp
  generalize lsI fs dn = lI at *
  generalize lsT fs dn = lT at *
  generalize lsM fs dn = lm at *
  generalize PM.bs (lsD fs dn) = ld at *
  generalize lsE fs dn = le at *
  have HL1 := Lib.hid hl1
  have HL2 := Lib.hid hl2
  obtain ⟨O, hs1, hs2⟩ := both_save fs dn fu h40 hs hlo hhi i t ks d hi ht
  rcases O with ⟨f2, dn2, fu2, r2⟩
  simp only at hs1 hs2
  unfold DoW at hs1 hs2
  have HS1 := Lib.hid hs1
  have HS2 := Lib.hid hs2
  have hsm := fun u1 u2 x hx hy => same_snap lI lT u1 (lm.map fun (k : Nat) => (k : Int)) ld lI lT u2 (lm.map fun (k : Nat) => (k : Int)) ld x hx hy
  rw [smB_same] at hsm
  have HSM := Lib.hid hsm
  obtain ⟨a, c, rfl⟩ := files_slice hf
  have HI := Lib.hid hk
  obtain ⟨va, vc, rfl, -⟩ := hk
  have HD0 := Lib.hid ((St.made (dn := dn) (fu := fu) HV.out).obj (.cells #[.int .u64 (i : Nat), .int .u64 (t : Nat), .slice va ks.length vc, .string d] 28))
  have HH0 : Hid (Bx4 ((w.alloc (.cells #[.slice a fs.length c, .bool dn, .int .i64 fu] 24)).alloc (.cells #[.int .u64 (i : Nat), .int .u64 (t : Nat), .slice va ks.length vc, .string d] 28)) (w.heap.size + 1) (.int .u64 (i : Nat)) (.int .u64 (t : Nat)) (.slice va ks.length vc) (.string d)) := by
    have h9 := Bx4.made (w.alloc (.cells #[.slice a fs.length c, .bool dn, .int .i64 fu] 24)) (.int .u64 (i : Nat)) (.int .u64 (t : Nat)) (.slice va ks.length vc) (.string d) 28
    rw [World.size_alloc] at h9
    exact h9
  clear hf h40 hs hlo hhi hl1 hl2 hs1 hs2 hsm hi ht
  go_enter Tryz.func3, Tryz.ntmps3
  go_wp2_with fail
  refine (HCO.out _ _ HD0.out.files).mono ?_
  intro e w1 hc
  obtain ⟨a1, c1, rfl, hb, hg⟩ := hc.var HD0.out.below HF.out HL.out
  have HG1 := Lib.hid hg
  obtain ⟨hD, fd0, fd1, fd2, fdl⟩ := HD0.out.next hb (.cells #[.slice a1 fs.length c1, .bool dn, .int .i64 fu] 24)
  have HD1 := Lib.hid hD
  clear hD HD0
  obtain ⟨hH, fh0, fh1, fh2, fh3, fhl⟩ := Bx4.next HH0.out hb (.cells #[.slice a1 fs.length c1, .bool dn, .int .i64 fu] 24)
  have HH1 := Lib.hid hH
  clear hH HH0
  clear hb hc hg
  go_wp2_with fail
  refine (HL1.out _ _ HG1.out.files).mono ?_
  rintro e w2 ⟨⟨v2, rfl, ho⟩, hb⟩
  obtain ⟨a2, c2, rfl⟩ := ho.slice
  have HA2 := Lib.hid (Bx4.made w2 (.int .u64 (lI : Nat)) (.int .u64 (lT : Nat)) (.slice a2 lm.length c2) (.string ld) 28)
  have IA2 := Lib.hid ((ho.ints (Nat.le_trans HML.out.1 (by omega)) (fun k hk => by have := HML.out.2 k hk; omega)).on ((Below.refl _ _).alloc (Nat.le_refl _) (.cells #[.int .u64 (lI : Nat), .int .u64 (lT : Nat), .slice a2 lm.length c2, .string ld] 28)))
  clear ho
  clear fd0 fd1 fd2 fdl fh0 fh1 fh2 fh3 fhl
  obtain ⟨hD, fd0, fd1, fd2, fdl⟩ := HD1.out.next hb (.cells #[.int .u64 (lI : Nat), .int .u64 (lT : Nat), .slice a2 lm.length c2, .string ld] 28)
  have HD2 := Lib.hid hD
  clear hD HD1
  obtain ⟨hG, fg0, fg1, fg2, fgl⟩ := HG1.out.next hb (.cells #[.int .u64 (lI : Nat), .int .u64 (lT : Nat), .slice a2 lm.length c2, .string ld] 28)
  have HG2 := Lib.hid hG
  clear hG HG1
  obtain ⟨hH, fh0, fh1, fh2, fh3, fhl⟩ := Bx4.next HH1.out hb (.cells #[.int .u64 (lI : Nat), .int .u64 (lT : Nat), .slice a2 lm.length c2, .string ld] 28)
  have HH2 := Lib.hid hH
  clear hH HH1
  clear hb
  go_wp2_with fail
  refine (HL2.out _ _ HD2.out.files).mono ?_
  rintro e w3 ⟨⟨v3, rfl, ho⟩, hb⟩
  obtain ⟨a3, c3, rfl⟩ := ho.slice
  have HB3 := Lib.hid (Bx4.made w3 (.int .u64 (lI : Nat)) (.int .u64 (lT : Nat)) (.slice a3 lm.length c3) (.string ld) 28)
  have IB3 := Lib.hid ((ho.ints (Nat.le_trans HML.out.1 (by omega)) (fun k hk => by have := HML.out.2 k hk; omega)).on ((Below.refl _ _).alloc (Nat.le_refl _) (.cells #[.int .u64 (lI : Nat), .int .u64 (lT : Nat), .slice a3 lm.length c3, .string ld] 28)))
  clear ho
  have IA3 := Lib.hid (IA2.out.on (hb.alloc hb.size (.cells #[.int .u64 (lI : Nat), .int .u64 (lT : Nat), .slice a3 lm.length c3, .string ld] 28)))
  clear fd0 fd1 fd2 fdl fg0 fg1 fg2 fgl fh0 fh1 fh2 fh3 fhl
  obtain ⟨hD, fd0, fd1, fd2, fdl⟩ := HD2.out.next hb (.cells #[.int .u64 (lI : Nat), .int .u64 (lT : Nat), .slice a3 lm.length c3, .string ld] 28)
  have HD3 := Lib.hid hD
  clear hD HD2
  obtain ⟨hG, fg0, fg1, fg2, fgl⟩ := HG2.out.next hb (.cells #[.int .u64 (lI : Nat), .int .u64 (lT : Nat), .slice a3 lm.length c3, .string ld] 28)
  have HG3 := Lib.hid hG
  clear hG HG2
  obtain ⟨hH, fh0, fh1, fh2, fh3, fhl⟩ := Bx4.next HH2.out hb (.cells #[.int .u64 (lI : Nat), .int .u64 (lT : Nat), .slice a3 lm.length c3, .string ld] 28)
  have HH3 := Lib.hid hH
  clear hH HH2
  obtain ⟨hA, fa0, fa1, fa2, fa3, fal⟩ := Bx4.next HA2.out hb (.cells #[.int .u64 (lI : Nat), .int .u64 (lT : Nat), .slice a3 lm.length c3, .string ld] 28)
  have HA3 := Lib.hid hA
  clear hA HA2
  clear hb
  go_wp2_with fail
  refine (HS1.out _ _ _ HG3.out.files (HI.out.on HD3.out.below)).mono ?_
  rintro e w4 ⟨v4, rfl, hz, -, hb⟩
  obtain ⟨a4, c4, rfl⟩ := files_slice hz
  have HX4 := Lib.hid (St.fresh (dn := dn2) (fu := fu2) (HD3.out.below.trans (hb.mono HD3.out.below.size)) hz)
  clear hz
  have IA4 := Lib.hid (IA3.out.on (hb.alloc hb.size (.cells #[.slice a4 f2.length c4, .bool dn2, .int .i64 fu2] 24)))
  have IB4 := Lib.hid (IB3.out.on (hb.alloc hb.size (.cells #[.slice a4 f2.length c4, .bool dn2, .int .i64 fu2] 24)))
  clear fd0 fd1 fd2 fdl fg0 fg1 fg2 fgl fh0 fh1 fh2 fh3 fhl fa0 fa1 fa2 fa3 fal
  obtain ⟨hD, fd0, fd1, fd2, fdl⟩ := HD3.out.next hb (.cells #[.slice a4 f2.length c4, .bool dn2, .int .i64 fu2] 24)
  have HD4 := Lib.hid hD
  clear hD HD3
  obtain ⟨hG, fg0, fg1, fg2, fgl⟩ := HG3.out.next hb (.cells #[.slice a4 f2.length c4, .bool dn2, .int .i64 fu2] 24)
  have HG4 := Lib.hid hG
  clear hG HG3
  obtain ⟨hH, fh0, fh1, fh2, fh3, fhl⟩ := Bx4.next HH3.out hb (.cells #[.slice a4 f2.length c4, .bool dn2, .int .i64 fu2] 24)
  have HH4 := Lib.hid hH
  clear hH HH3
  obtain ⟨hA, fa0, fa1, fa2, fa3, fal⟩ := Bx4.next HA3.out hb (.cells #[.slice a4 f2.length c4, .bool dn2, .int .i64 fu2] 24)
  have HA4 := Lib.hid hA
  clear hA HA3
  obtain ⟨hB, fb0, fb1, fb2, fb3, fbl⟩ := Bx4.next HB3.out hb (.cells #[.slice a4 f2.length c4, .bool dn2, .int .i64 fu2] 24)
  have HB4 := Lib.hid hB
  clear hB HB3
  clear hb
  go_wp2_with fail
  refine (HS2.out _ _ _ HD4.out.files (HI.out.on HD4.out.below)).mono ?_
  rintro e w5 ⟨v5, rfl, hz, -, hb⟩
  obtain ⟨a5, c5, rfl⟩ := files_slice hz
  have HY5 := Lib.hid (St.fresh (dn := dn2) (fu := fu2) (HD4.out.below.trans (hb.mono HD4.out.below.size)) hz)
  clear hz
  have IA5 := Lib.hid (IA4.out.on (hb.alloc hb.size (.cells #[.slice a5 f2.length c5, .bool dn2, .int .i64 fu2] 24)))
  have IB5 := Lib.hid (IB4.out.on (hb.alloc hb.size (.cells #[.slice a5 f2.length c5, .bool dn2, .int .i64 fu2] 24)))
  clear fd0 fd1 fd2 fdl fg0 fg1 fg2 fgl fh0 fh1 fh2 fh3 fhl fa0 fa1 fa2 fa3 fal fb0 fb1 fb2 fb3 fbl
  obtain ⟨hD, fd0, fd1, fd2, fdl⟩ := HD4.out.next hb (.cells #[.slice a5 f2.length c5, .bool dn2, .int .i64 fu2] 24)
  have HD5 := Lib.hid hD
  clear hD HD4
  obtain ⟨hG, fg0, fg1, fg2, fgl⟩ := HG4.out.next hb (.cells #[.slice a5 f2.length c5, .bool dn2, .int .i64 fu2] 24)
  have HG5 := Lib.hid hG
  clear hG HG4
  obtain ⟨hX, fx0, fx1, fx2, fxl⟩ := HX4.out.next hb (.cells #[.slice a5 f2.length c5, .bool dn2, .int .i64 fu2] 24)
  have HX5 := Lib.hid hX
  clear hX HX4
  obtain ⟨hH, fh0, fh1, fh2, fh3, fhl⟩ := Bx4.next HH4.out hb (.cells #[.slice a5 f2.length c5, .bool dn2, .int .i64 fu2] 24)
  have HH5 := Lib.hid hH
  clear hH HH4
  obtain ⟨hA, fa0, fa1, fa2, fa3, fal⟩ := Bx4.next HA4.out hb (.cells #[.slice a5 f2.length c5, .bool dn2, .int .i64 fu2] 24)
  have HA5 := Lib.hid hA
  clear hA HA4
  obtain ⟨hB, fb0, fb1, fb2, fb3, fbl⟩ := Bx4.next HB4.out hb (.cells #[.slice a5 f2.length c5, .bool dn2, .int .i64 fu2] 24)
  have HB5 := Lib.hid hB
  clear hB HB4
  clear hb
  have PM : Hid (∀ z, Below (w5.alloc (.cells #[.slice a5 f2.length c5, .bool dn2, .int .i64 fu2] 24)).heap.size (w5.alloc (.cells #[.slice a5 f2.length c5, .bool dn2, .int .i64 fu2] 24)) z → z.cell? ⟨w.heap.size, 0, none⟩ = some (.slice a fs.length c) ∧ z.cell? ⟨w.heap.size, 1, none⟩ = some (.bool dn) ∧ z.cell? ⟨w.heap.size, 2, none⟩ = some (.int .i64 fu) ∧ z.cell? ⟨w1.heap.size, 0, none⟩ = some (.slice a1 fs.length c1) ∧ z.cell? ⟨w1.heap.size, 1, none⟩ = some (.bool dn) ∧ z.cell? ⟨w1.heap.size, 2, none⟩ = some (.int .i64 fu) ∧ z.cell? ⟨w4.heap.size, 0, none⟩ = some (.slice a4 f2.length c4) ∧ z.cell? ⟨w4.heap.size, 1, none⟩ = some (.bool dn2) ∧ z.cell? ⟨w4.heap.size, 2, none⟩ = some (.int .i64 fu2) ∧ z.cell? ⟨w5.heap.size, 0, none⟩ = some (.slice a5 f2.length c5) ∧ z.cell? ⟨w5.heap.size, 1, none⟩ = some (.bool dn2) ∧ z.cell? ⟨w5.heap.size, 2, none⟩ = some (.int .i64 fu2) ∧ z.cell? ⟨w2.heap.size, 0, none⟩ = some (.int .u64 (lI : Nat)) ∧ z.cell? ⟨w2.heap.size, 1, none⟩ = some (.int .u64 (lT : Nat)) ∧ z.cell? ⟨w2.heap.size, 2, none⟩ = some (.slice a2 lm.length c2) ∧ z.cell? ⟨w2.heap.size, 3, none⟩ = some (.string ld) ∧ z.cell? ⟨w3.heap.size, 0, none⟩ = some (.int .u64 (lI : Nat)) ∧ z.cell? ⟨w3.heap.size, 1, none⟩ = some (.int .u64 (lT : Nat)) ∧ z.cell? ⟨w3.heap.size, 2, none⟩ = some (.slice a3 lm.length c3) ∧ z.cell? ⟨w3.heap.size, 3, none⟩ = some (.string ld) ∧ Hid (Below (w5.alloc (.cells #[.slice a5 f2.length c5, .bool dn2, .int .i64 fu2] 24)).heap.size (w5.alloc (.cells #[.slice a5 f2.length c5, .bool dn2, .int .i64 fu2] 24)) z)) := fun z hb => ⟨(HD5.out.keep hb).dx.d0, (HD5.out.keep hb).dx.d1, (HD5.out.keep hb).dx.d2, (HG5.out.keep hb).dx.d0, (HG5.out.keep hb).dx.d1, (HG5.out.keep hb).dx.d2, (HX5.out.keep hb).dx.d0, (HX5.out.keep hb).dx.d1, (HX5.out.keep hb).dx.d2, (HY5.out.keep hb).dx.d0, (HY5.out.keep hb).dx.d1, (HY5.out.keep hb).dx.d2, (HA5.out.below hb).cells.1, (HA5.out.below hb).cells.2.1, (HA5.out.below hb).cells.2.2.1, (HA5.out.below hb).cells.2.2.2, (HB5.out.below hb).cells.1, (HB5.out.below hb).cells.2.1, (HB5.out.below hb).cells.2.2.1, (HB5.out.below hb).cells.2.2.2, hb⟩
  have PB : Hid (∀ z, (z.cell? ⟨w.heap.size, 0, none⟩ = some (.slice a fs.length c) ∧ z.cell? ⟨w.heap.size, 1, none⟩ = some (.bool dn) ∧ z.cell? ⟨w.heap.size, 2, none⟩ = some (.int .i64 fu) ∧ z.cell? ⟨w1.heap.size, 0, none⟩ = some (.slice a1 fs.length c1) ∧ z.cell? ⟨w1.heap.size, 1, none⟩ = some (.bool dn) ∧ z.cell? ⟨w1.heap.size, 2, none⟩ = some (.int .i64 fu) ∧ z.cell? ⟨w4.heap.size, 0, none⟩ = some (.slice a4 f2.length c4) ∧ z.cell? ⟨w4.heap.size, 1, none⟩ = some (.bool dn2) ∧ z.cell? ⟨w4.heap.size, 2, none⟩ = some (.int .i64 fu2) ∧ z.cell? ⟨w5.heap.size, 0, none⟩ = some (.slice a5 f2.length c5) ∧ z.cell? ⟨w5.heap.size, 1, none⟩ = some (.bool dn2) ∧ z.cell? ⟨w5.heap.size, 2, none⟩ = some (.int .i64 fu2) ∧ z.cell? ⟨w2.heap.size, 0, none⟩ = some (.int .u64 (lI : Nat)) ∧ z.cell? ⟨w2.heap.size, 1, none⟩ = some (.int .u64 (lT : Nat)) ∧ z.cell? ⟨w2.heap.size, 2, none⟩ = some (.slice a2 lm.length c2) ∧ z.cell? ⟨w2.heap.size, 3, none⟩ = some (.string ld) ∧ z.cell? ⟨w3.heap.size, 0, none⟩ = some (.int .u64 (lI : Nat)) ∧ z.cell? ⟨w3.heap.size, 1, none⟩ = some (.int .u64 (lT : Nat)) ∧ z.cell? ⟨w3.heap.size, 2, none⟩ = some (.slice a3 lm.length c3) ∧ z.cell? ⟨w3.heap.size, 3, none⟩ = some (.string ld) ∧ Hid (Below (w5.alloc (.cells #[.slice a5 f2.length c5, .bool dn2, .int .i64 fu2] 24)).heap.size (w5.alloc (.cells #[.slice a5 f2.length c5, .bool dn2, .int .i64 fu2] 24)) z)) → Below (w5.alloc (.cells #[.slice a5 f2.length c5, .bool dn2, .int .i64 fu2] 24)).heap.size (w5.alloc (.cells #[.slice a5 f2.length c5, .bool dn2, .int .i64 fu2] 24)) z) := fun z h => h.2.2.2.2.2.2.2.2.2.2.2.2.2.2.2.2.2.2.2.2.out
  have K1 : Hid (∀ z, (z.cell? ⟨w.heap.size, 0, none⟩ = some (.slice a fs.length c) ∧ z.cell? ⟨w.heap.size, 1, none⟩ = some (.bool dn) ∧ z.cell? ⟨w.heap.size, 2, none⟩ = some (.int .i64 fu) ∧ z.cell? ⟨w1.heap.size, 0, none⟩ = some (.slice a1 fs.length c1) ∧ z.cell? ⟨w1.heap.size, 1, none⟩ = some (.bool dn) ∧ z.cell? ⟨w1.heap.size, 2, none⟩ = some (.int .i64 fu) ∧ z.cell? ⟨w4.heap.size, 0, none⟩ = some (.slice a4 f2.length c4) ∧ z.cell? ⟨w4.heap.size, 1, none⟩ = some (.bool dn2) ∧ z.cell? ⟨w4.heap.size, 2, none⟩ = some (.int .i64 fu2) ∧ z.cell? ⟨w5.heap.size, 0, none⟩ = some (.slice a5 f2.length c5) ∧ z.cell? ⟨w5.heap.size, 1, none⟩ = some (.bool dn2) ∧ z.cell? ⟨w5.heap.size, 2, none⟩ = some (.int .i64 fu2) ∧ z.cell? ⟨w2.heap.size, 0, none⟩ = some (.int .u64 (lI : Nat)) ∧ z.cell? ⟨w2.heap.size, 1, none⟩ = some (.int .u64 (lT : Nat)) ∧ z.cell? ⟨w2.heap.size, 2, none⟩ = some (.slice a2 lm.length c2) ∧ z.cell? ⟨w2.heap.size, 3, none⟩ = some (.string ld) ∧ z.cell? ⟨w3.heap.size, 0, none⟩ = some (.int .u64 (lI : Nat)) ∧ z.cell? ⟨w3.heap.size, 1, none⟩ = some (.int .u64 (lT : Nat)) ∧ z.cell? ⟨w3.heap.size, 2, none⟩ = some (.slice a3 lm.length c3) ∧ z.cell? ⟨w3.heap.size, 3, none⟩ = some (.string ld) ∧ Hid (Below (w5.alloc (.cells #[.slice a5 f2.length c5, .bool dn2, .int .i64 fu2] 24)).heap.size (w5.alloc (.cells #[.slice a5 f2.length c5, .bool dn2, .int .i64 fu2] 24)) z)) → Calls Tryz.prog 9 #[] z fun e z' => e = .returned (.bool true) ∧ (z'.cell? ⟨w.heap.size, 0, none⟩ = some (.slice a fs.length c) ∧ z'.cell? ⟨w.heap.size, 1, none⟩ = some (.bool dn) ∧ z'.cell? ⟨w.heap.size, 2, none⟩ = some (.int .i64 fu) ∧ z'.cell? ⟨w1.heap.size, 0, none⟩ = some (.slice a1 fs.length c1) ∧ z'.cell? ⟨w1.heap.size, 1, none⟩ = some (.bool dn) ∧ z'.cell? ⟨w1.heap.size, 2, none⟩ = some (.int .i64 fu) ∧ z'.cell? ⟨w4.heap.size, 0, none⟩ = some (.slice a4 f2.length c4) ∧ z'.cell? ⟨w4.heap.size, 1, none⟩ = some (.bool dn2) ∧ z'.cell? ⟨w4.heap.size, 2, none⟩ = some (.int .i64 fu2) ∧ z'.cell? ⟨w5.heap.size, 0, none⟩ = some (.slice a5 f2.length c5) ∧ z'.cell? ⟨w5.heap.size, 1, none⟩ = some (.bool dn2) ∧ z'.cell? ⟨w5.heap.size, 2, none⟩ = some (.int .i64 fu2) ∧ z'.cell? ⟨w2.heap.size, 0, none⟩ = some (.int .u64 (lI : Nat)) ∧ z'.cell? ⟨w2.heap.size, 1, none⟩ = some (.int .u64 (lT : Nat)) ∧ z'.cell? ⟨w2.heap.size, 2, none⟩ = some (.slice a2 lm.length c2) ∧ z'.cell? ⟨w2.heap.size, 3, none⟩ = some (.string ld) ∧ z'.cell? ⟨w3.heap.size, 0, none⟩ = some (.int .u64 (lI : Nat)) ∧ z'.cell? ⟨w3.heap.size, 1, none⟩ = some (.int .u64 (lT : Nat)) ∧ z'.cell? ⟨w3.heap.size, 2, none⟩ = some (.slice a3 lm.length c3) ∧ z'.cell? ⟨w3.heap.size, 3, none⟩ = some (.string ld) ∧ Hid (Below (w5.alloc (.cells #[.slice a5 f2.length c5, .bool dn2, .int .i64 fu2] 24)).heap.size (w5.alloc (.cells #[.slice a5 f2.length c5, .bool dn2, .int .i64 fu2] 24)) z'))) := fun z h => (slives z).mono fun e z' ⟨he, hb⟩ => ⟨he, PM.out z' ((PB.out z h).trans (hb.mono (PB.out z h).size))⟩
  have K2 : Hid (∀ z, (z.cell? ⟨w.heap.size, 0, none⟩ = some (.slice a fs.length c) ∧ z.cell? ⟨w.heap.size, 1, none⟩ = some (.bool dn) ∧ z.cell? ⟨w.heap.size, 2, none⟩ = some (.int .i64 fu) ∧ z.cell? ⟨w1.heap.size, 0, none⟩ = some (.slice a1 fs.length c1) ∧ z.cell? ⟨w1.heap.size, 1, none⟩ = some (.bool dn) ∧ z.cell? ⟨w1.heap.size, 2, none⟩ = some (.int .i64 fu) ∧ z.cell? ⟨w4.heap.size, 0, none⟩ = some (.slice a4 f2.length c4) ∧ z.cell? ⟨w4.heap.size, 1, none⟩ = some (.bool dn2) ∧ z.cell? ⟨w4.heap.size, 2, none⟩ = some (.int .i64 fu2) ∧ z.cell? ⟨w5.heap.size, 0, none⟩ = some (.slice a5 f2.length c5) ∧ z.cell? ⟨w5.heap.size, 1, none⟩ = some (.bool dn2) ∧ z.cell? ⟨w5.heap.size, 2, none⟩ = some (.int .i64 fu2) ∧ z.cell? ⟨w2.heap.size, 0, none⟩ = some (.int .u64 (lI : Nat)) ∧ z.cell? ⟨w2.heap.size, 1, none⟩ = some (.int .u64 (lT : Nat)) ∧ z.cell? ⟨w2.heap.size, 2, none⟩ = some (.slice a2 lm.length c2) ∧ z.cell? ⟨w2.heap.size, 3, none⟩ = some (.string ld) ∧ z.cell? ⟨w3.heap.size, 0, none⟩ = some (.int .u64 (lI : Nat)) ∧ z.cell? ⟨w3.heap.size, 1, none⟩ = some (.int .u64 (lT : Nat)) ∧ z.cell? ⟨w3.heap.size, 2, none⟩ = some (.slice a3 lm.length c3) ∧ z.cell? ⟨w3.heap.size, 3, none⟩ = some (.string ld) ∧ Hid (Below (w5.alloc (.cells #[.slice a5 f2.length c5, .bool dn2, .int .i64 fu2] 24)).heap.size (w5.alloc (.cells #[.slice a5 f2.length c5, .bool dn2, .int .i64 fu2] 24)) z)) → Calls Tryz.prog 10 #[.agg #[.int .u64 (lI : Nat), .int .u64 (lT : Nat), .slice a2 lm.length c2, .string ld], .agg #[.int .u64 (lI : Nat), .int .u64 (lT : Nat), .slice a3 lm.length c3, .string ld]] z fun e z' => e = .returned (.bool true) ∧ (z'.cell? ⟨w.heap.size, 0, none⟩ = some (.slice a fs.length c) ∧ z'.cell? ⟨w.heap.size, 1, none⟩ = some (.bool dn) ∧ z'.cell? ⟨w.heap.size, 2, none⟩ = some (.int .i64 fu) ∧ z'.cell? ⟨w1.heap.size, 0, none⟩ = some (.slice a1 fs.length c1) ∧ z'.cell? ⟨w1.heap.size, 1, none⟩ = some (.bool dn) ∧ z'.cell? ⟨w1.heap.size, 2, none⟩ = some (.int .i64 fu) ∧ z'.cell? ⟨w4.heap.size, 0, none⟩ = some (.slice a4 f2.length c4) ∧ z'.cell? ⟨w4.heap.size, 1, none⟩ = some (.bool dn2) ∧ z'.cell? ⟨w4.heap.size, 2, none⟩ = some (.int .i64 fu2) ∧ z'.cell? ⟨w5.heap.size, 0, none⟩ = some (.slice a5 f2.length c5) ∧ z'.cell? ⟨w5.heap.size, 1, none⟩ = some (.bool dn2) ∧ z'.cell? ⟨w5.heap.size, 2, none⟩ = some (.int .i64 fu2) ∧ z'.cell? ⟨w2.heap.size, 0, none⟩ = some (.int .u64 (lI : Nat)) ∧ z'.cell? ⟨w2.heap.size, 1, none⟩ = some (.int .u64 (lT : Nat)) ∧ z'.cell? ⟨w2.heap.size, 2, none⟩ = some (.slice a2 lm.length c2) ∧ z'.cell? ⟨w2.heap.size, 3, none⟩ = some (.string ld) ∧ z'.cell? ⟨w3.heap.size, 0, none⟩ = some (.int .u64 (lI : Nat)) ∧ z'.cell? ⟨w3.heap.size, 1, none⟩ = some (.int .u64 (lT : Nat)) ∧ z'.cell? ⟨w3.heap.size, 2, none⟩ = some (.slice a3 lm.length c3) ∧ z'.cell? ⟨w3.heap.size, 3, none⟩ = some (.string ld) ∧ Hid (Below (w5.alloc (.cells #[.slice a5 f2.length c5, .bool dn2, .int .i64 fu2] 24)).heap.size (w5.alloc (.cells #[.slice a5 f2.length c5, .bool dn2, .int .i64 fu2] 24)) z'))) := fun z h => (HSM.out _ _ z (IA5.out.on (PB.out z h)) (IB5.out.on (PB.out z h))).mono fun e z' ⟨he, hb⟩ => ⟨he, PM.out z' ((PB.out z h).trans (hb.mono (PB.out z h).size))⟩
  have K4 : Hid (∀ z, (z.cell? ⟨w.heap.size, 0, none⟩ = some (.slice a fs.length c) ∧ z.cell? ⟨w.heap.size, 1, none⟩ = some (.bool dn) ∧ z.cell? ⟨w.heap.size, 2, none⟩ = some (.int .i64 fu) ∧ z.cell? ⟨w1.heap.size, 0, none⟩ = some (.slice a1 fs.length c1) ∧ z.cell? ⟨w1.heap.size, 1, none⟩ = some (.bool dn) ∧ z.cell? ⟨w1.heap.size, 2, none⟩ = some (.int .i64 fu) ∧ z.cell? ⟨w4.heap.size, 0, none⟩ = some (.slice a4 f2.length c4) ∧ z.cell? ⟨w4.heap.size, 1, none⟩ = some (.bool dn2) ∧ z.cell? ⟨w4.heap.size, 2, none⟩ = some (.int .i64 fu2) ∧ z.cell? ⟨w5.heap.size, 0, none⟩ = some (.slice a5 f2.length c5) ∧ z.cell? ⟨w5.heap.size, 1, none⟩ = some (.bool dn2) ∧ z.cell? ⟨w5.heap.size, 2, none⟩ = some (.int .i64 fu2) ∧ z.cell? ⟨w2.heap.size, 0, none⟩ = some (.int .u64 (lI : Nat)) ∧ z.cell? ⟨w2.heap.size, 1, none⟩ = some (.int .u64 (lT : Nat)) ∧ z.cell? ⟨w2.heap.size, 2, none⟩ = some (.slice a2 lm.length c2) ∧ z.cell? ⟨w2.heap.size, 3, none⟩ = some (.string ld) ∧ z.cell? ⟨w3.heap.size, 0, none⟩ = some (.int .u64 (lI : Nat)) ∧ z.cell? ⟨w3.heap.size, 1, none⟩ = some (.int .u64 (lT : Nat)) ∧ z.cell? ⟨w3.heap.size, 2, none⟩ = some (.slice a3 lm.length c3) ∧ z.cell? ⟨w3.heap.size, 3, none⟩ = some (.string ld) ∧ Hid (Below (w5.alloc (.cells #[.slice a5 f2.length c5, .bool dn2, .int .i64 fu2] 24)).heap.size (w5.alloc (.cells #[.slice a5 f2.length c5, .bool dn2, .int .i64 fu2] 24)) z)) → Calls Tryz.prog 11 #[.agg #[.slice a4 f2.length c4, .bool dn2, .int .i64 fu2], .agg #[.slice a5 f2.length c5, .bool dn2, .int .i64 fu2]] z fun e z' => e = .returned (.bool true) ∧ (z'.cell? ⟨w.heap.size, 0, none⟩ = some (.slice a fs.length c) ∧ z'.cell? ⟨w.heap.size, 1, none⟩ = some (.bool dn) ∧ z'.cell? ⟨w.heap.size, 2, none⟩ = some (.int .i64 fu) ∧ z'.cell? ⟨w1.heap.size, 0, none⟩ = some (.slice a1 fs.length c1) ∧ z'.cell? ⟨w1.heap.size, 1, none⟩ = some (.bool dn) ∧ z'.cell? ⟨w1.heap.size, 2, none⟩ = some (.int .i64 fu) ∧ z'.cell? ⟨w4.heap.size, 0, none⟩ = some (.slice a4 f2.length c4) ∧ z'.cell? ⟨w4.heap.size, 1, none⟩ = some (.bool dn2) ∧ z'.cell? ⟨w4.heap.size, 2, none⟩ = some (.int .i64 fu2) ∧ z'.cell? ⟨w5.heap.size, 0, none⟩ = some (.slice a5 f2.length c5) ∧ z'.cell? ⟨w5.heap.size, 1, none⟩ = some (.bool dn2) ∧ z'.cell? ⟨w5.heap.size, 2, none⟩ = some (.int .i64 fu2) ∧ z'.cell? ⟨w2.heap.size, 0, none⟩ = some (.int .u64 (lI : Nat)) ∧ z'.cell? ⟨w2.heap.size, 1, none⟩ = some (.int .u64 (lT : Nat)) ∧ z'.cell? ⟨w2.heap.size, 2, none⟩ = some (.slice a2 lm.length c2) ∧ z'.cell? ⟨w2.heap.size, 3, none⟩ = some (.string ld) ∧ z'.cell? ⟨w3.heap.size, 0, none⟩ = some (.int .u64 (lI : Nat)) ∧ z'.cell? ⟨w3.heap.size, 1, none⟩ = some (.int .u64 (lT : Nat)) ∧ z'.cell? ⟨w3.heap.size, 2, none⟩ = some (.slice a3 lm.length c3) ∧ z'.cell? ⟨w3.heap.size, 3, none⟩ = some (.string ld) ∧ Hid (Below (w5.alloc (.cells #[.slice a5 f2.length c5, .bool dn2, .int .i64 fu2] 24)).heap.size (w5.alloc (.cells #[.slice a5 f2.length c5, .bool dn2, .int .i64 fu2] 24)) z'))) := fun z h => (same_ref _ _ _ _ _ _ _ _ _ (HX5.out.keep (PB.out z h)).files (HY5.out.keep (PB.out z h)).files).mono fun e z' ⟨⟨b, he, hbt⟩, hb⟩ => ⟨by rw [he, hbt.2 ⟨rfl, rfl, rfl⟩], PM.out z' ((PB.out z h).trans (hb.mono (PB.out z h).size))⟩
  have K5 : Hid (∀ z, (z.cell? ⟨w.heap.size, 0, none⟩ = some (.slice a fs.length c) ∧ z.cell? ⟨w.heap.size, 1, none⟩ = some (.bool dn) ∧ z.cell? ⟨w.heap.size, 2, none⟩ = some (.int .i64 fu) ∧ z.cell? ⟨w1.heap.size, 0, none⟩ = some (.slice a1 fs.length c1) ∧ z.cell? ⟨w1.heap.size, 1, none⟩ = some (.bool dn) ∧ z.cell? ⟨w1.heap.size, 2, none⟩ = some (.int .i64 fu) ∧ z.cell? ⟨w4.heap.size, 0, none⟩ = some (.slice a4 f2.length c4) ∧ z.cell? ⟨w4.heap.size, 1, none⟩ = some (.bool dn2) ∧ z.cell? ⟨w4.heap.size, 2, none⟩ = some (.int .i64 fu2) ∧ z.cell? ⟨w5.heap.size, 0, none⟩ = some (.slice a5 f2.length c5) ∧ z.cell? ⟨w5.heap.size, 1, none⟩ = some (.bool dn2) ∧ z.cell? ⟨w5.heap.size, 2, none⟩ = some (.int .i64 fu2) ∧ z.cell? ⟨w2.heap.size, 0, none⟩ = some (.int .u64 (lI : Nat)) ∧ z.cell? ⟨w2.heap.size, 1, none⟩ = some (.int .u64 (lT : Nat)) ∧ z.cell? ⟨w2.heap.size, 2, none⟩ = some (.slice a2 lm.length c2) ∧ z.cell? ⟨w2.heap.size, 3, none⟩ = some (.string ld) ∧ z.cell? ⟨w3.heap.size, 0, none⟩ = some (.int .u64 (lI : Nat)) ∧ z.cell? ⟨w3.heap.size, 1, none⟩ = some (.int .u64 (lT : Nat)) ∧ z.cell? ⟨w3.heap.size, 2, none⟩ = some (.slice a3 lm.length c3) ∧ z.cell? ⟨w3.heap.size, 3, none⟩ = some (.string ld) ∧ Hid (Below (w5.alloc (.cells #[.slice a5 f2.length c5, .bool dn2, .int .i64 fu2] 24)).heap.size (w5.alloc (.cells #[.slice a5 f2.length c5, .bool dn2, .int .i64 fu2] 24)) z)) → Calls Tryz.prog 11 #[.agg #[.slice a1 fs.length c1, .bool dn, .int .i64 fu], .agg #[.slice a fs.length c, .bool dn, .int .i64 fu]] z fun e z' => e = .returned (.bool true) ∧ (z'.cell? ⟨w.heap.size, 0, none⟩ = some (.slice a fs.length c) ∧ z'.cell? ⟨w.heap.size, 1, none⟩ = some (.bool dn) ∧ z'.cell? ⟨w.heap.size, 2, none⟩ = some (.int .i64 fu) ∧ z'.cell? ⟨w1.heap.size, 0, none⟩ = some (.slice a1 fs.length c1) ∧ z'.cell? ⟨w1.heap.size, 1, none⟩ = some (.bool dn) ∧ z'.cell? ⟨w1.heap.size, 2, none⟩ = some (.int .i64 fu) ∧ z'.cell? ⟨w4.heap.size, 0, none⟩ = some (.slice a4 f2.length c4) ∧ z'.cell? ⟨w4.heap.size, 1, none⟩ = some (.bool dn2) ∧ z'.cell? ⟨w4.heap.size, 2, none⟩ = some (.int .i64 fu2) ∧ z'.cell? ⟨w5.heap.size, 0, none⟩ = some (.slice a5 f2.length c5) ∧ z'.cell? ⟨w5.heap.size, 1, none⟩ = some (.bool dn2) ∧ z'.cell? ⟨w5.heap.size, 2, none⟩ = some (.int .i64 fu2) ∧ z'.cell? ⟨w2.heap.size, 0, none⟩ = some (.int .u64 (lI : Nat)) ∧ z'.cell? ⟨w2.heap.size, 1, none⟩ = some (.int .u64 (lT : Nat)) ∧ z'.cell? ⟨w2.heap.size, 2, none⟩ = some (.slice a2 lm.length c2) ∧ z'.cell? ⟨w2.heap.size, 3, none⟩ = some (.string ld) ∧ z'.cell? ⟨w3.heap.size, 0, none⟩ = some (.int .u64 (lI : Nat)) ∧ z'.cell? ⟨w3.heap.size, 1, none⟩ = some (.int .u64 (lT : Nat)) ∧ z'.cell? ⟨w3.heap.size, 2, none⟩ = some (.slice a3 lm.length c3) ∧ z'.cell? ⟨w3.heap.size, 3, none⟩ = some (.string ld) ∧ Hid (Below (w5.alloc (.cells #[.slice a5 f2.length c5, .bool dn2, .int .i64 fu2] 24)).heap.size (w5.alloc (.cells #[.slice a5 f2.length c5, .bool dn2, .int .i64 fu2] 24)) z'))) := fun z h => (same_ref _ _ _ _ _ _ _ _ _ (HG5.out.keep (PB.out z h)).files (HD5.out.keep (PB.out z h)).files).mono fun e z' ⟨⟨b, he, hbt⟩, hb⟩ => ⟨by rw [he, hbt.2 ⟨rfl, rfl, rfl⟩], PM.out z' ((PB.out z h).trans (hb.mono (PB.out z h).size))⟩
  have KE : Hid (Below w.heap.size w (w5.alloc (.cells #[.slice a5 f2.length c5, .bool dn2, .int .i64 fu2] 24))) := HY5.out.below
  have KZ : Hid (w.heap.size ≤ (w5.alloc (.cells #[.slice a5 f2.length c5, .bool dn2, .int .i64 fu2] 24)).heap.size) := HY5.out.below.size
  clear fd0 fd1 fd2 fdl fg0 fg1 fg2 fgl fx0 fx1 fx2 fxl fh0 fh1 fh2 fh3 fhl fa0 fa1 fa2 fa3 fal fb0 fb1 fb2 fb3 fbl
  have HS5 := Lib.hid (PM.out _ (Below.refl _ _))
  clear PM HL1 HL2 HS1 HS2 HCO HF HL HV HSM HI HML IA5 IB5
  go_wp2_with fail
  refine (K1.out _ HS5.out).mono ?_
  rintro e w6 ⟨rfl, hS⟩
  have HS6 := Lib.hid hS
  clear hS HS5
  obtain ⟨q0, q1, q2, q3, q4, q5, q6, q7, q8, q9, q10, q11, q12, q13, q14, q15, q16, q17, q18, q19, -⟩ := HS6.out
  go_wp2_with fail
  refine (K2.out _ HS6.out).mono ?_
  rintro e w7 ⟨rfl, hS⟩
  have HS7 := Lib.hid hS
  clear hS HS6 q0 q1 q2 q3 q4 q5 q6 q7 q8 q9 q10 q11 q12 q13 q14 q15 q16 q17 q18 q19
  obtain ⟨q0, q1, q2, q3, q4, q5, q6, q7, q8, q9, q10, q11, q12, q13, q14, q15, q16, q17, q18, q19, -⟩ := HS7.out
  go_wp2_with fail
  refine (K4.out _ HS7.out).mono ?_
  rintro e w8 ⟨rfl, hS⟩
  have HS8 := Lib.hid hS
  clear hS HS7 q0 q1 q2 q3 q4 q5 q6 q7 q8 q9 q10 q11 q12 q13 q14 q15 q16 q17 q18 q19
  obtain ⟨q0, q1, q2, q3, q4, q5, q6, q7, q8, q9, q10, q11, q12, q13, q14, q15, q16, q17, q18, q19, -⟩ := HS8.out
  go_wp2_with fail
  refine (K5.out _ HS8.out).mono ?_
  rintro e w9 ⟨rfl, hS⟩
  have HS9 := Lib.hid hS
  clear hS HS8 q0 q1 q2 q3 q4 q5 q6 q7 q8 q9 q10 q11 q12 q13 q14 q15 q16 q17 q18 q19
  obtain ⟨q0, q1, q2, q3, q4, q5, q6, q7, q8, q9, q10, q11, q12, q13, q14, q15, q16, q17, q18, q19, -⟩ := HS9.out
  go_wp2
  go_ret
  exact ⟨rfl, KE.out.trans ((PB.out _ HS9.out).mono KZ.out)⟩
end Dk
end Go.Proofs.YtgahilemlnoabaaGreat
