/-
  THE WALK of SnapRising.
-/
import Derived.Test.YtgahilemlnoabaaSnB
import Derived.Test.YtgahilemlnoabaaSnapSs
namespace Go.Proofs.Ytgahilemlnoabaa
open Go.RowKit Go.Lib Go.Sort
namespace Dk
open Hd (OwnI Bx4)
theorem St.new {w x : World} {v : Value} {dn : Bool} {fu : Int} {fs : List Fl} (hb : Below w.heap.size w x) (hf : Files x x.heap.size v fs) : St w x.heap.size (x.alloc (.cells #[v, .bool dn, .int .i64 fu] 37)) v dn fu fs :=
  ⟨hb.size, by simp, hb.alloc hb.size _, Dx.made _ _ _ _, hf.al _⟩
theorem files_lt {w : World} {B : Nat} {v : Value} {fs : List Fl} (h : Files w B v fs) (hn : 0 < fs.length) : ∀ b off n c, v = .slice (some ⟨b, off, none⟩) n c → b < B := by
  obtain ⟨a, c, rfl, -, -, h3⟩ := h
  obtain ⟨b, off, rfl, hlt, -⟩ := h3 hn
  intro b' off' n c' e
  simp only [Value.slice.injEq, Option.some.injEq, Addr.mk.injEq] at e
  omega
theorem St.fuse {w x : World} {B : Nat} {v : Value} {dn : Bool} {fu : Int} {fs : List Fl} (h : St w B x v dn fu fs) (hne : ∀ b off c, v = .slice (some ⟨b, off, none⟩) fs.length c → b ≠ B) (f : Int) : St w B (x.setCell ⟨B, 2, none⟩ (.int .i64 f)) v dn f fs := by
  obtain ⟨h1, h2, h3, ⟨d0, d1, d2, d3, d4, d5⟩, h5⟩ := h
  refine ⟨h1, by simpa using h2, bset h3 h1 _, ⟨?_, ?_, ?_, ?_, ?_, ?_⟩, h5.st _ _ hne⟩
  · exact (World.cell?_setCell_other _ _ _ _ (by simp)).trans d0
  · exact (World.cell?_setCell_other _ _ _ _ (by simp)).trans d1
  · exact World.cell?_setCell_same _ _ _ d2
  · exact (World.frozen?_setCell _ _ _ _).trans d3
  · exact (World.frozen?_setCell _ _ _ _).trans d4
  · exact (World.frozen?_setCell _ _ _ _).trans d5
theorem smB_refl2 (i t : Nat) (ks : List Int) (d : ByteArray) : smB i t ks d i t ks d = true := by unfold smB; simp
theorem far3 {x : World} {B p : Nat} {a b c d : Value} (h : Bx4 x B a b c d) (hp : p ≠ B) (u0 u1 u2 : Value) : Bx4 (((x.setCell ⟨p, 0, none⟩ u0).setCell ⟨p, 1, none⟩ u1).setCell ⟨p, 2, none⟩ u2) B a b c d := ((h.far hp 0 u0).far hp 1 u1).far hp 2 u2
theorem cell_drew (w : World) (a : Addr) : w.drew.cell? a = w.cell? a := rfl
/-- Where the loop stands: the disk in the box P, the last snapshot in the next one. -/
structure Rise (w : World) (P : Nat) (x : World) (dv : Value) (fs : List Fl) (lv : Value) (n : Nat) : Prop where
  st : St w P x dv false (-1) fs
  bx : Bx4 x (P + 1) (.int .u64 (lsI fs false : Nat)) (.int .u64 (lsT fs false : Nat)) lv (.string (PM.bs (lsD fs false)))
  iv : Ints w w.heap.size lv ((lsM fs false).map fun (k : Nat) => (k : Int))
  chk : chkN fs = 0
  sm : ∀ f ∈ fs, f.da.size ≤ 70000
  ln : fs.length ≤ n
  er : lsE fs false = 0
theorem Rise.on {w x y : World} {P n : Nat} {dv lv : Value} {fs : List Fl} (h : Rise w P x dv fs lv n) (hb : Below x.heap.size x y) : Rise w P y dv fs lv n :=
  ⟨h.st.keep hb, h.bx.below hb, h.iv, h.chk, h.sm, h.ln, h.er⟩
theorem Rise.up {w x : World} {P n m : Nat} {dv lv : Value} {fs : List Fl} (h : Rise w P x dv fs lv n) (hm : n ≤ m) : Rise w P x dv fs lv m :=
  ⟨h.st, h.bx, h.iv, h.chk, h.sm, Nat.le_trans h.ln hm, h.er⟩
theorem Dx.far4 {B p : Nat} {w : World} {v : Value} {dn : Bool} {fu : Int} (h : Dx B w v dn fu) (hp : B ≠ p) (u0 u1 u2 u3 : Value) : Dx B ((((w.setCell ⟨p, 0, none⟩ u0).setCell ⟨p, 1, none⟩ u1).setCell ⟨p, 2, none⟩ u2).setCell ⟨p, 3, none⟩ u3) v dn fu := (((h.far hp).far hp).far hp).far hp
theorem rise_next {w x : World} {P n : Nat} {dv lv : Value} {fs fs2 : List Fl} (h : Rise w P x dv fs lv n) {v2 : Value} (hf : Files x x.heap.size v2 fs2) (hh : Hi (P + 2) v2) (i t : Nat) (u : Value) (ks : List Int) (d : ByteArray) (hu : Ints w w.heap.size u ks)
    (e1 : lsI fs2 false = i) (e2 : lsT fs2 false = t) (e3 : (lsM fs2 false).map (fun (k : Nat) => (k : Int)) = ks) (e4 : PM.bs (lsD fs2 false) = d) (e5 : lsE fs2 false = 0) (hc : chkN fs2 = 0) (hs : ∀ f ∈ fs2, f.da.size ≤ 70000) {m : Nat} (hl : fs2.length ≤ m) :
    Rise w P (((((((x.setCell ⟨P, 0, none⟩ v2).setCell ⟨P, 1, none⟩ (.bool false)).setCell ⟨P, 2, none⟩ (.int .i64 (-1))).setCell ⟨P + 1, 0, none⟩ (.int .u64 (i : Nat))).setCell ⟨P + 1, 1, none⟩ (.int .u64 (t : Nat))).setCell ⟨P + 1, 2, none⟩ u).setCell ⟨P + 1, 3, none⟩ (.string d)) v2 fs2 u m := by
  have hP := h.st.lo
  have f1 := hf.put3 (u0 := v2) (u1 := .bool false) (u2 := .int .i64 (-1)) hh (by omega : P < P + 2)
  have f2 := f1.put (i := 0) (u := .int .u64 (i : Nat)) hh (by omega : P + 1 < P + 2)
  have f3 := f2.put (i := 1) (u := .int .u64 (t : Nat)) hh (by omega : P + 1 < P + 2)
  have f4 := f3.put (i := 2) (u := u) hh (by omega : P + 1 < P + 2)
  have f5 := f4.put (i := 3) (u := .string d) hh (by omega : P + 1 < P + 2)
  have b1 := below3 (u0 := v2) (u1 := .bool false) (u2 := .int .i64 (-1)) h.st.below hP
  refine ⟨⟨hP, by have := h.st.hi; simpa using this, bset (bset (bset (bset b1 (by show w.heap.size ≤ P + 1; omega) _) (by show w.heap.size ≤ P + 1; omega) _) (by show w.heap.size ≤ P + 1; omega) _) (by show w.heap.size ≤ P + 1; omega) _, Dx.far4 h.st.dx.st (by omega) _ _ _ _, f5⟩, ?_, ?_, hc, hs, hl, e5⟩
  · rw [e1, e2, e4]
    exact (((((((h.bx.far (by omega) 0 v2).far (by omega) 1 (.bool false)).far (by omega) 2 (.int .i64 (-1))).set0 _).set1 _).set2 _).set3 _)
  · rw [e3]; exact hu
theorem ls_m7 (fs : List Fl) : (lsM fs false).length ≤ 1000 ∧ ∀ k ∈ lsM fs false, k ≤ 9223372036854775807 := by
  unfold lsM
  split
  · have := Hd.sdM_ok (lsL fs false)
    exact ⟨by omega, fun k hk => by have := this.2 k hk; omega⟩
  · simp
set_option maxRecDepth 100000 in
set_option maxHeartbeats 8000000 in
theorem snapRising (sv : Value) (l : List Sn) (w : World) (hl : Snaps w w.heap.size sv l) :
    Calls Try.prog 6 #[sv] w fun e w' => e = .returned (.bool true) ∧ Below w.heap.size w w' := by
  obtain ⟨a0, c0, rfl, hll, hlt, hlc⟩ := hl
  have HLT := Lib.hid hlt
  have HLC := Lib.hid hlc
  have hld := fun (fs : List Fl) dv x hx => load_snap_any dv false (-1) fs x hx
  unfold LoadS at hld
  have HLDX := Lib.hid hld
  clear hlt hlc hld
  go_enter Try.func6, Try.ntmps6
  go_wp2_with fail
  refine (slives _).mono ?_
  rintro e w1 ⟨rfl, hbw⟩
  have HR0 : Hid (Rise w w1.heap.size ((w1.alloc (.cells #[.slice none 0 0, .bool false, .int .i64 (-1)] 37)).alloc (.cells #[.int .u64 0, .int .u64 0, .slice none 0 0, .string ⟨#[]⟩] 25)) (.slice none 0 0) [] (.slice none 0 0) 0) := by
    obtain ⟨e1, e2, e3, e4, e5⟩ := ls_none (fs := []) chk_nil rfl
    refine ⟨(St.new hbw (nil_files w1)).keep ((Below.refl _ _).alloc (Nat.le_refl _) _), ?_, ?_, chk_nil, by simp, by simp, e5⟩
    · rw [e1, e2, e4]
      have h := Bx4.made (w1.alloc (.cells #[.slice none 0 0, .bool false, .int .i64 (-1)] 37)) (.int .u64 0) (.int .u64 0) (.slice none 0 0) (.string ⟨#[]⟩) 25
      rw [World.size_alloc] at h
      exact h
    · rw [e3]; exact ⟨none, 0, rfl, by simp, by simp, by simp⟩
  clear hbw
  go_wp2
  go_loopg [18] l.length (fun g i wx => ∃ (k : Nat) (dv : Value) (fs : List Fl) (lv : Value), k + g = l.length ∧ i = .int .i64 k ∧ Aside (k ≤ 20) ∧ Aside (Rise w w1.heap.size wx dv fs lv k))
  case atStart => exact ⟨0, _, _, _, by omega, rfl, (by omega : 0 ≤ 20), HR0.out⟩
  case round =>
    obtain ⟨k, dv, fs, lv, hkg, rfl, H20, HR⟩ := hrel
    have HRI := Lib.hid (show Rise w w1.heap.size wr dv fs lv k from HR.out)
    have HM7 := Lib.hid (ls_m7 fs)
    have hlo := HR.out.st.lo
    have HLO := Lib.hid hlo
    obtain ⟨a, c, rfl⟩ := files_slice HR.out.st.files
    obtain ⟨la, lc, hlv, -⟩ := HR.out.iv
    rw [List.length_map] at hlv
    generalize hln : (lsM fs false).length = ln at hlv
    subst hlv
    clear HR0 hlo
    cases gk with
    | zero =>
      obtain rfl : k = l.length := by omega
      clear hkg
      have HSX := Lib.hid HRI.out.st
      have lbx := HRI.out.bx
      have hil := HRI.out.iv
      have hld2 := HLDX.out fs
      rw [HRI.out.er] at hld2
      clear HRI HLDX HR hln
      generalize lsI fs false = li at *
      generalize lsT fs false = lt at *
      generalize lsM fs false = lm at *
      generalize PM.bs (lsD fs false) = ld at *
      have LBX := Lib.hid lbx
      have HIL := Lib.hid hil
      have HLD := Lib.hid hld2
      clear lbx hil hld2
      generalize fs.length = n at *
      obtain ⟨d0, d1, d2, -, -, -⟩ := HSX.out.dx
      go_wp2_with fail
      refine (HLD.out _ _ HSX.out.files).mono ?_
      rintro e w9 ⟨⟨v9, rfl, ho9⟩, hb⟩
      obtain ⟨a9, c9, rfl⟩ := ho9.slice
      have hb9 := hb.alloc hb.size (.cells #[.int .u64 (li : Nat), .int .u64 (lt : Nat), .slice a9 lm.length c9, .string ld] 25)
      have LB9 := Lib.hid (LBX.out.below hb9)
      have GB9 := Lib.hid (Bx4.made w9 (.int .u64 (li : Nat)) (.int .u64 (lt : Nat)) (.slice a9 lm.length c9) (.string ld) 25)
      have HW9 := Lib.hid (HSX.out.below.trans (hb9.mono HSX.out.below.size))
      have I9 := Lib.hid ((ho9.ints (Nat.le_trans HM7.out.1 (by omega)) HM7.out.2).on ((Below.refl _ _).alloc (Nat.le_refl _) (.cells #[.int .u64 (li : Nat), .int .u64 (lt : Nat), .slice a9 lm.length c9, .string ld] 25)))
      have J9 := Lib.hid (HIL.out.on HW9.out)
      have hsm := same_snap li lt (.slice a9 lm.length c9) (lm.map fun (k : Nat) => (k : Int)) ld li lt (.slice la ln lc) (lm.map fun (k : Nat) => (k : Int)) ld _ I9.out J9.out
      rw [smB_refl2] at hsm
      have HSM := Lib.hid hsm
      clear hb hb9 ho9 hsm d0 d1 d2
      obtain ⟨q0, q1, q2, q3⟩ := GB9.out.cells
      obtain ⟨r0, r1, r2, r3⟩ := LB9.out.cells
      go_wp2_with fail
      refine HSM.out.mono ?_
      rintro e w10 ⟨rfl, hb⟩
      have HW10 := Lib.hid (HW9.out.trans (hb.mono HW9.out.size))
      clear hb
      go_wp2
      go_ret
      exact ⟨rfl, HW10.out⟩
    | succ g =>
      have hlk : k < l.length := by omega
      have hlk2 : (k : Int) < (l.length : Int) := by omega
      have HG := Lib.hid hkg
      have hth := HLT.out l[k] (List.getElem_mem hlk)
      obtain ⟨b, off, rfl, hblt, hcc⟩ := HLC.out (by omega)
      obtain ⟨g0, g1, g2, g3⟩ := hcc k hlk
      have hbl := HRI.out.st.below
      have k0 := (hbl.cell (by exact hblt)).trans g0
      have k1 := (hbl.cell (by exact hblt)).trans g1
      have k2 := (hbl.cell (by exact hblt)).trans g2
      have k3 := (hbl.cell (by exact hblt)).trans g3
      clear hkg hcc g0 g1 g2 g3 hbl
      generalize l[k] = x at *
      rcases x with ⟨si, st, su, sk, sd⟩
      simp only at k0 k1 k2 k3 hth
      obtain ⟨hsi, hst, hsk⟩ := hth
      have HSK := Lib.hid hsk
      obtain ⟨sa, sc, rfl, -⟩ := hsk
      generalize hsn : sk.length = sn at *
      have hsb := Bx4.made wr (.int .u64 (si : Nat)) (.int .u64 (st : Nat)) (.slice sa sn sc) (.string sd) 25
      have A1 : Below wr.heap.size wr (wr.alloc (.cells #[.int .u64 (si : Nat), .int .u64 (st : Nat), .slice sa sn sc, .string sd] 25)) := (Below.refl _ _).alloc (Nat.le_refl _) _
      have HRA := Lib.hid (HRI.out.on A1)
      have HSB := Lib.hid hsb
      clear hsb A1
      by_cases h20 : k = 20
      · subst h20
        have HSX := Lib.hid HRA.out.st
        have lbx := HRA.out.bx
        have hil := HRA.out.iv
        have hld2 := HLDX.out fs
        rw [HRA.out.er] at hld2
        clear HRA HRI HLDX HR hln
        generalize lsI fs false = li at *
        generalize lsT fs false = lt at *
        generalize lsM fs false = lm at *
        generalize PM.bs (lsD fs false) = ld at *
        have LBX := Lib.hid lbx
        have HIL := Lib.hid hil
        have HLD := Lib.hid hld2
        clear lbx hil hld2
        generalize fs.length = n at *
        obtain ⟨d0, d1, d2, -, -, -⟩ := HSX.out.dx
        go_wp2_with fail
        refine (HLD.out _ _ HSX.out.files).mono ?_
        rintro e w9 ⟨⟨v9, rfl, ho9⟩, hb⟩
        obtain ⟨a9, c9, rfl⟩ := ho9.slice
        have hb9 := hb.alloc hb.size (.cells #[.int .u64 (li : Nat), .int .u64 (lt : Nat), .slice a9 lm.length c9, .string ld] 25)
        have LB9 := Lib.hid (LBX.out.below hb9)
        have GB9 := Lib.hid (Bx4.made w9 (.int .u64 (li : Nat)) (.int .u64 (lt : Nat)) (.slice a9 lm.length c9) (.string ld) 25)
        have HW9 := Lib.hid (HSX.out.below.trans (hb9.mono HSX.out.below.size))
        have I9 := Lib.hid ((ho9.ints (Nat.le_trans HM7.out.1 (by omega)) HM7.out.2).on ((Below.refl _ _).alloc (Nat.le_refl _) (.cells #[.int .u64 (li : Nat), .int .u64 (lt : Nat), .slice a9 lm.length c9, .string ld] 25)))
        have J9 := Lib.hid (HIL.out.on HW9.out)
        have hsm := same_snap li lt (.slice a9 lm.length c9) (lm.map fun (k : Nat) => (k : Int)) ld li lt (.slice la ln lc) (lm.map fun (k : Nat) => (k : Int)) ld _ I9.out J9.out
        rw [smB_refl2] at hsm
        have HSM := Lib.hid hsm
        clear hb hb9 ho9 hsm d0 d1 d2
        obtain ⟨q0, q1, q2, q3⟩ := GB9.out.cells
        obtain ⟨r0, r1, r2, r3⟩ := LB9.out.cells
        go_wp2_with fail
        refine HSM.out.mono ?_
        rintro e w10 ⟨rfl, hb⟩
        have HW10 := Lib.hid (HW9.out.trans (hb.mono HW9.out.size))
        clear hb
        go_wp2
        go_ret
        exact ⟨rfl, HW10.out⟩
      · have hk20 : ¬ (k : Int) = 20 := by omega
        have hk20' : ((k : Int) == 20) = false := by simp; omega
        have H19 : Hid (k ≤ 19) := by have := H20.out; show k ≤ 19; omega
        obtain ⟨d0, d1, d2, -, -, -⟩ := HRA.out.st.dx
        obtain ⟨s0, s1, s2, s3⟩ := HSB.out.cells
        have hck := fun y hy => Hd.snap_check si st (.slice sa sn sc) sk sd y hy
        have h19 := H19.out
        by_cases hsv : svE fs false si st sk sd = 0
        · have hc : Hd.chkS si st sk sd = 0 := by
            unfold svE at hsv
            by_cases hc : Hd.chkS si st sk sd = 0
            · exact hc
            · rw [if_neg hc] at hsv; omega
          have hr : rfN fs false si = 0 := by unfold svE at hsv; rw [if_pos hc] at hsv; exact hsv
          have hle : lsI fs false ≤ si := by
            unfold rfN at hr
            rw [HRA.out.er, if_neg (by simp)] at hr
            by_cases hq : si < lsI fs false
            · rw [if_pos hq] at hr; omega
            · omega
          have hR := rs_of hsi hst hc
          have hkm := Hd.toNat_map sk (Hd.chk_ms si st sk sd hc).1
          obtain ⟨o1, o2, o3, o4, o5, o6, o7⟩ := m1_save (S := 70000) (Nat.le_refl _) hR HRA.out.chk HRA.out.sm (by have := HRA.out.ln; omega) _ rfl
          have hsa := fun dv y hy hz => save_any 70000 (Nat.le_refl _) (by omega) dv fs (-1) HRA.out.chk HRA.out.sm (by omega) (by omega) si st (.slice sa sn sc) sk sd hsi hst hc hr y hy hz
          generalize seqO nSn nSt (snC si st (sk.map Int.toNat) sd) fs false (-1) 4 = o at *
          rcases o with ⟨fs2, dn2, fu2, r2⟩
          simp only at o1 o2 o3 o4 o5 o6 o7 hsa
          subst o1 o2 o3
          obtain ⟨e1, e2, e3, e4, e5⟩ := ls_file o4 hR o7
          rw [hc] at hck
          have HCK := Lib.hid hck
          have HSV := Lib.hid hsa
          have HFA := Lib.hid (And.intro e1 (And.intro e2 (And.intro (show (lsM fs2 false).map (fun (k : Nat) => (k : Int)) = sk by rw [e3]; exact hkm) (And.intro e4 (And.intro e5 (And.intro o4 (And.intro o5 o6)))))))
          have hle2 : ((lsI fs false : Nat) : Int) ≤ (si : Int) := by omega
          clear hck hsa e1 e2 e3 e4 e5 o4 o5 o6 o7 hR hkm hr hc hsv hle h19
          go_wp2_with fail
          refine (HSV.out _ _ HRA.out.st.files (HSK.out.on HRA.out.st.below)).mono ?_
          rintro e w3 ⟨v3, rfl, hf3, hh3, hb⟩
          obtain ⟨a3, c3, rfl⟩ := files_slice hf3
          have HH3 : Hid (Hi (w1.heap.size + 2) (.slice a3 fs2.length c3)) := hh3 _ (by have := HRA.out.bx.lt; omega) (hi_none _ _ _)
          have hb3 := hb.alloc hb.size (.cells #[.slice a3 fs2.length c3, .bool false, .int .i64 (-1)] 37)
          have HR3 := Lib.hid (HRA.out.on hb3)
          have HB3 := Lib.hid (HSB.out.below hb3)
          have HE3 := Lib.hid (And.intro (Dx.made w3 (.slice a3 fs2.length c3) false (-1)) (hf3.al (.cells #[.slice a3 fs2.length c3, .bool false, .int .i64 (-1)] 37)))
          have z3 : wr.heap.size + 1 ≤ w3.heap.size := by have := hb.size; simpa using this
          have zP : w1.heap.size + 1 < wr.heap.size := HRI.out.bx.lt
          clear hb hb3 hf3 hh3 d0 d1 d2 s0 s1 s2 s3
          obtain ⟨s0, s1, s2, s3⟩ := HB3.out.cells
          go_wp2_with fail
          refine (HCK.out _ (HSK.out.on HR3.out.st.below)).mono ?_
          rintro e w4 ⟨rfl, hb⟩
          have HR4 := Lib.hid (HR3.out.on hb)
          have HB4 := Lib.hid (HB3.out.below hb)
          have HE4 := Lib.hid (And.intro (HE3.out.1.keep hb (by simp)) (HE3.out.2.on hb hb.size))
          have z4 : w3.heap.size + 1 ≤ w4.heap.size := by have := hb.size; simpa using this
          clear hb s0 s1 s2 s3
          have HR5 := HR4
          have HB5 := HB4
          have HE5 := HE4
          obtain ⟨s0, s1, s2, s3⟩ := HB5.out.cells
          obtain ⟨t0, t1, t2, t3⟩ := HR5.out.bx.cells
          obtain ⟨y0, y1, y2, -, -, -⟩ := HE5.out.1
          obtain ⟨d0, d1, d2, f0, f1, f2⟩ := HR5.out.st.dx
          obtain ⟨g0, g1, g2, g3⟩ := HR5.out.bx.fz
          have HNX := Lib.hid (rise_next HR5.out HE5.out.2 HH3.out si st (.slice sa sn sc) sk sd HSK.out HFA.out.1 HFA.out.2.1 HFA.out.2.2.1 HFA.out.2.2.2.1 HFA.out.2.2.2.2.1 HFA.out.2.2.2.2.2.1 HFA.out.2.2.2.2.2.2.1 (m := k + 1) (by have h1 := HFA.out.2.2.2.2.2.2.2; have h2 := HRA.out.ln; omega))
          have HND : Hid (Rise w w1.heap.size ((((((((w4.setCell ⟨w1.heap.size, 0, none⟩ (.slice a3 fs2.length c3)).setCell ⟨w1.heap.size, 1, none⟩ (.bool false)).setCell ⟨w1.heap.size, 2, none⟩ (.int .i64 (-1))).setCell ⟨w1.heap.size + 1, 0, none⟩ (.int .u64 (si : Nat))).setCell ⟨w1.heap.size + 1, 1, none⟩ (.int .u64 (st : Nat))).setCell ⟨w1.heap.size + 1, 2, none⟩ (.slice sa sn sc)).setCell ⟨w1.heap.size + 1, 3, none⟩ (.string sd)).drew) (.slice a3 fs2.length c3) fs2 (.slice sa sn sc) (k + 1)) := HNX.out.on ((Below.refl _ _).drew)
          clear HSV HCK HR3 HB3 HE3 HRA HSB HRI HLDX HNX HR4 HB4 HE4 HR5 HB5 HE5 HFA HH3 HSK HM7 HLO HR H20
          go_wp2
          go_region
          all_goals
            go_wp2
            go_roundg g
            case measure => omega
            case rel => exact ⟨k + 1, .slice a3 fs2.length c3, fs2, .slice sa sn sc, by have := HG.out; omega, by go_num, (by have := H19.out; omega : k + 1 ≤ 20), HND.out⟩
        · have hsv2 : svE fs false si st sk sd = 4 ∨ (Hd.chkS si st sk sd = 0 ∧ si < lsI fs false) := by
            unfold svE rfN at hsv ⊢
            rw [HRA.out.er] at hsv ⊢
            by_cases hc : Hd.chkS si st sk sd = 0
            · rw [if_pos hc, if_neg (by simp)] at hsv
              by_cases hq : si < lsI fs false
              · exact .inr ⟨hc, hq⟩
              · rw [if_neg hq] at hsv; exact absurd rfl hsv
            · exact .inl (if_neg hc)
          have hno := fun dv y hy hz => save_no dv false (-1) fs si st (.slice sa sn sc) sk sd y hy hz hsi hst hsv
          have en : nonO fs false (-1) = ⟨fs, false, -1, 0⟩ := by unfold nonO; rw [if_pos HRA.out.chk]
          rw [en] at hno
          generalize hr : svE fs false si st sk sd = r at *
          have hr0 : ¬ (r : Int) = 0 := by omega
          have hr1 : ((r : Int) == 0) = false := by simp; omega
          have HNO := Lib.hid hno
          clear hno en hsv
          by_cases hc : Hd.chkS si st sk sd = 0
          · rw [hc] at hck
            have HCK := Lib.hid hck
            have hlt : si < lsI fs false := by
              rcases hsv2 with e | e
              · unfold svE rfN at hr
                rw [if_pos hc, HRA.out.er, if_neg (by simp)] at hr
                by_cases hq : si < lsI fs false
                · exact hq
                · rw [if_neg hq] at hr; omega
              · exact e.2
            have hlt1 : ¬ ((lsI fs false : Nat) : Int) ≤ (si : Int) := by omega
            have hlt2 : decide (((lsI fs false : Nat) : Int) ≤ (si : Int)) = false := by simpa using hlt1
            clear hck hsv2 hr hc hlt h19
            go_wp2_with fail
            refine (HNO.out _ _ HRA.out.st.files (HSK.out.on HRA.out.st.below)).mono ?_
            rintro e w3 ⟨v3, rfl, hf3, -, hb⟩
            obtain ⟨a3, c3, rfl⟩ := files_slice hf3
            have hb3 := hb.alloc hb.size (.cells #[.slice a3 fs.length c3, .bool false, .int .i64 (-1)] 37)
            have HR3 := Lib.hid (HRA.out.on hb3)
            have HB3 := Lib.hid (HSB.out.below hb3)
            clear hb hb3 hf3 d0 d1 d2 s0 s1 s2 s3
            obtain ⟨s0, s1, s2, s3⟩ := HB3.out.cells
            go_wp2_with fail
            refine (HCK.out _ (HSK.out.on HR3.out.st.below)).mono ?_
            rintro e w4 ⟨rfl, hb⟩
            have HR4 := Lib.hid (HR3.out.on hb)
            have HB4 := Lib.hid (HB3.out.below hb)
            clear hb s0 s1 s2 s3
            obtain ⟨s0, -, -, -⟩ := HB4.out.cells
            obtain ⟨t0, -, -, -⟩ := HR4.out.bx.cells
            go_wp2
            go_roundg g
            case measure => omega
            case rel => exact ⟨k + 1, _, fs, _, by have := HG.out; omega, by go_num, (by have := H19.out; omega : k + 1 ≤ 20), HR4.out.up (by omega)⟩
          · have h4 : Hd.chkS si st sk sd = 4 := by
              have h := hc
              unfold Hd.chkS at h ⊢
              split
              · rename_i h1; rw [if_pos h1] at h; exact absurd rfl h
              · rename_i h1
                rw [if_neg h1] at h
                split
                · rename_i h2
                  rw [if_pos h2] at h
                  split
                  · rfl
                  · rename_i h3; rw [if_neg h3] at h; exact absurd rfl h
                · rfl
            rw [h4] at hck
            have HCK := Lib.hid hck
            clear hck hsv2 hr hc h4 h19
            go_wp2_with fail
            refine (HNO.out _ _ HRA.out.st.files (HSK.out.on HRA.out.st.below)).mono ?_
            rintro e w3 ⟨v3, rfl, hf3, -, hb⟩
            obtain ⟨a3, c3, rfl⟩ := files_slice hf3
            have hb3 := hb.alloc hb.size (.cells #[.slice a3 fs.length c3, .bool false, .int .i64 (-1)] 37)
            have HR3 := Lib.hid (HRA.out.on hb3)
            have HB3 := Lib.hid (HSB.out.below hb3)
            clear hb hb3 hf3 d0 d1 d2 s0 s1 s2 s3
            obtain ⟨s0, s1, s2, s3⟩ := HB3.out.cells
            go_wp2_with fail
            refine (HCK.out _ (HSK.out.on HR3.out.st.below)).mono ?_
            rintro e w4 ⟨rfl, hb⟩
            have HR4 := Lib.hid (HR3.out.on hb)
            have HB4 := Lib.hid (HB3.out.below hb)
            clear hb s0 s1 s2 s3
            obtain ⟨s0, -, -, -⟩ := HB4.out.cells
            obtain ⟨t0, -, -, -⟩ := HR4.out.bx.cells
            go_wp2
            go_roundg g
            case measure => omega
            case rel => exact ⟨k + 1, _, fs, _, by have := HG.out; omega, by go_num, (by have := H19.out; omega : k + 1 ≤ 20), HR4.out.up (by omega)⟩
end Dk
end Go.Proofs.Ytgahilemlnoabaa
