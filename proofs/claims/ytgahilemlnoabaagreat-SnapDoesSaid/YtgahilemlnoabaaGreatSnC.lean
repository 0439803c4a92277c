/-
  Merged: SnapRl, SnapRv, SnapRw.
-/
import Derived.Test.YtgahilemlnoabaaGreatSnapRe
import Derived.Test.YtgahilemlnoabaaGreatPackTakeFrRef
import Derived.Test.YtgahilemlnoabaaGreatSnapPtR
/- THE DOCUMENT'S ANSWER: gafferref05.Load. -/
namespace Go.Proofs.YtgahilemlnoabaaGreat
open Go.RowKit Go.Lib Go.Sort
namespace Dk
open Hd
theorem ok_nil : sdOk [] = false := by
  rw [← rf_sd]
  unfold rfO
  rw [decide_eq_false (show ¬ PM.tnW [] = 0 by decide)]
  rfl
theorem ok_frame (l : List UInt8) : sdOk (fmL l) = (decide (PM.tfW l = 0) && (sdOk (PM.tfP l) && (PM.tfR l).isEmpty)) := by
  by_cases h : PM.tfW l = 0
  · by_cases h2 : PM.tfR l = []
    · rw [(fm_ok l h h2).1, h, h2]; simp
    · rw [(fm_more l h h2).1, ok_nil]
      have h3 : (PM.tfR l).isEmpty = false := by rw [← Bool.not_eq_true, List.isEmpty_iff]; exact h2
      rw [h3]; simp
  · rw [(fm_bad l h).1, ok_nil, decide_eq_false h]; rfl
theorem LoadS.no4 {w w' : World} {fs : List Fl} {dn : Bool} (h0 : rdE fs dn nSn = 0) (h : sdOk (lsL fs dn) = false) : LoadS w fs dn (.returned (.tuple #[.agg #[.int .u64 0, .int .u64 0, .slice none 0 0, .string ⟨#[]⟩], .int .i64 4])) w' := by
  have e := LoadS.ok (w := w) (w' := w') (dn := dn) h0 (v := .slice none 0 0) (by unfold sdM; rw [h]; exact OwnI.nil _ _)
  unfold sdI sdT sdD sdE at e
  rw [h] at e
  exact e
theorem LoadS.yes0 {w w' : World} {fs : List Fl} {dn : Bool} (h0 : rdE fs dn nSn = 0) {p : List UInt8} (hp : lsL fs dn = p) (h : sdOk p = true) {v : Value} (ho : OwnI w' w.heap.size v (sdM p)) : LoadS w fs dn (.returned (.tuple #[.agg #[.int .u64 (sdI p : Nat), .int .u64 (sdT p : Nat), v, .string (PM.bs (sdD p))], .int .i64 0])) w' := by
  subst hp
  have e := LoadS.ok (w := w) (w' := w') (dn := dn) h0 (v := v) ho
  have h4 : sdE (lsL fs dn) = 0 := by unfold sdE; rw [h]; rfl
  rw [h4] at e
  exact e
set_option maxHeartbeats 1000000 in
theorem load_ref5 (dv : Value) (dn : Bool) (fu : Int) (fs : List Fl) (w : World) (hf : Files w w.heap.size dv fs) :
    Calls Tryz.prog 6 #[.agg #[dv, .bool dn, .int .i64 fu]] w fun e w' => LoadS w fs dn e w' ∧ Below w.heap.size w w' := by
  have h1 := fun w hw => read_ref dv dn fu fs nSn w hw
  have HF := Lib.hid hf
  have hfine := hf.fine
  obtain ⟨a, c, rfl, -⟩ := hf
  unfold ReadIs at h1
  have HR := Lib.hid (h1 _ ((HF.out.al (.cells #[.slice a fs.length c, .bool dn, .int .i64 fu] 24)).al (.cells #[.int .u64 0, .int .u64 0, .slice none 0 0, .string ⟨#[]⟩] 28)))
  have HRB : Hid (∀ z, Below ((w.alloc (.cells #[.slice a fs.length c, .bool dn, .int .i64 fu] 24)).alloc (.cells #[.int .u64 0, .int .u64 0, .slice none 0 0, .string ⟨#[]⟩] 28)).heap.size ((w.alloc (.cells #[.slice a fs.length c, .bool dn, .int .i64 fu] 24)).alloc (.cells #[.int .u64 0, .int .u64 0, .slice none 0 0, .string ⟨#[]⟩] 28)) z → Bx4 z (w.heap.size + 1) (.int .u64 0) (.int .u64 0) (.slice none 0 0) (.string ⟨#[]⟩) ∧ Below w.heap.size w z) := by
    intro z hb
    have h := Bx4.made (w.alloc (.cells #[.slice a fs.length c, .bool dn, .int .i64 fu] 24)) (.int .u64 0) (.int .u64 0) (.slice none 0 0) (.string ⟨#[]⟩) 28
    rw [World.size_alloc] at h
    exact ⟨h.below hb, (((Below.refl w.heap.size w).alloc (Nat.le_refl _) _).alloc (by simp) _).trans (hb.mono (by simp; omega))⟩
  unfold nSn at HR
  have hsz := rdS_size fs dn nSn hfine
  clear h1 hfine
  by_cases h0 : rdE fs dn nSn = 0
  · have hok := ok_frame (rdS fs dn nSn).data.toList
    have eL : lsL fs dn = fmL (rdS fs dn nSn).data.toList := rfl
    rw [← eL] at hok
    have eP : PM.tfW (rdS fs dn nSn).data.toList = 0 → PM.tfR (rdS fs dn nSn).data.toList = [] → lsL fs dn = PM.tfP (rdS fs dn nSn).data.toList := fun h1 h2 => (fm_ok _ h1 h2).1
    have hno := fun (h : sdOk (lsL fs dn) = false) w' => LoadS.no4 (w := w) (w' := w') (dn := dn) h0 h
    have hye := fun (h1 : PM.tfW (rdS fs dn nSn).data.toList = 0) (h2 : PM.tfR (rdS fs dn nSn).data.toList = []) (h3 : sdOk (PM.tfP (rdS fs dn nSn).data.toList) = true) w' v ho => LoadS.yes0 (w := w) (w' := w') (dn := dn) h0 (eP h1 h2) h3 (v := v) ho
    have htf := fun w => PackTakeFrRef.takeFrame_ref (rdS fs dn nSn) w hsz
    have hpl : (PM.tfP (rdS fs dn nSn).data.toList).length ≤ maxLen := Nat.le_trans (tfP_len _) hsz
    have hde := fun w => Hd.decode_ref (PM.tfP (rdS fs dn nSn).data.toList) w hpl
    unfold PackTakeFr.TookF at htf
    unfold SnIs at hde
    have hE : sdE (PM.tfP (rdS fs dn nSn).data.toList) = if sdOk (PM.tfP (rdS fs dn nSn).data.toList) = true then 0 else 4 := rfl
    have h0' : rdE fs dn ⟨#[115, 110, 97, 112]⟩ = 0 := h0
    rw [h0'] at HR
    have e9 : rdS fs dn ⟨#[115, 110, 97, 112]⟩ = rdS fs dn nSn := rfl
    rw [e9] at HR
    have hrr : (PM.tfR (rdS fs dn nSn).data.toList).isEmpty = (PM.bs (PM.tfR (rdS fs dn nSn).data.toList)).toList.isEmpty := by rw [ByteArray.toList_eq, PM.bs_data]
    have hrn : (PM.bs (PM.tfR (rdS fs dn nSn).data.toList)).toList = [] → PM.tfR (rdS fs dn nSn).data.toList = [] := fun h => by rwa [ByteArray.toList_eq, PM.bs_data] at h
    clear h0 h0' hsz e9 eL eP hpl
    generalize sdOk (lsL fs dn) = okl at *
    have HDE := Lib.hid hde
    have HTF := Lib.hid htf
    clear hde htf
    generalize rdS fs dn nSn = s at *
    by_cases hW : PM.tfW s.data.toList = 0
    · rw [hW] at hok HTF
      cases hq : sdOk (PM.tfP s.data.toList) with
      | false =>
        have HNO := Lib.hid (hno (by rw [hok, hq]; rfl))
        rw [hE, hq, if_neg (by simp)] at HDE
        clear hno hye hok hE hrr hrn hW hq
        generalize PM.tfP s.data.toList = p at *
        generalize PM.bs (PM.tfR s.data.toList) = sr at *
        generalize sdI p = I at *
        generalize sdT p = U at *
        generalize sdM p = ml at *
        generalize PM.bs (sdD p) = st at *
        generalize PM.bs p = sp at *
        go_enter Tryz.func6, Tryz.ntmps6
        go_wp2_with fail
        refine HR.out.mono ?_
        rintro e w1 ⟨rfl, hb⟩
        have RB1 := Lib.hid (HRB.out _ hb)
        clear hb
        go_wp2_with fail
        refine (HTF.out _).mono ?_
        rintro e w2 ⟨rfl, hb⟩
        have RB2 := Lib.hid (And.intro (RB1.out.1.below hb) (RB1.out.2.trans (hb.mono RB1.out.2.size)))
        clear hb
        go_wp2_with fail
        refine (HDE.out _).mono ?_
        rintro e w3 ⟨⟨v3, rfl, ho⟩, hb⟩
        obtain ⟨a3, c3, rfl⟩ := ho.slice
        have hb3 := hb.alloc hb.size (.cells #[.int .u64 (I : Nat), .int .u64 (U : Nat), .slice a3 ml.length c3, .string st] 28)
        have RB3 := Lib.hid (And.intro (RB2.out.1.below hb3) (RB2.out.2.trans (hb3.mono RB2.out.2.size)))
        have HO3 := Lib.hid ((ho.less (b2 := w.heap.size + 2) (by have := RB2.out.1.lt; omega)).below ((Below.refl w3.heap.size w3).alloc (Nat.le_refl _) (.cells #[.int .u64 (I : Nat), .int .u64 (U : Nat), .slice a3 ml.length c3, .string st] 28)))
        have HS3 := Lib.hid (Bx4.made w3 (.int .u64 (I : Nat)) (.int .u64 (U : Nat)) (.slice a3 ml.length c3) (.string st) 28)
        clear hb ho hb3
        obtain ⟨s0', s1', s2', s3'⟩ := HS3.out.cells
        obtain ⟨r0, r1, r2, r3⟩ := RB3.out.1.cells
        obtain ⟨f0, f1, f2, f3⟩ := RB3.out.1.fz
        go_wp2
        refine bodyPost_snap rfl (w.heap.size + 1) 0 0 (.slice none 0 0) ⟨#[]⟩ rfl rfl ?_ ?_
        case refine_1 => exact (((RB3.out.1.set0 _).set1 _).set2 _).set3 _
        case refine_2 => exact ⟨HNO.out _, bset (bset (bset (bset RB3.out.2 (by show w.heap.size ≤ w.heap.size + 1; omega) _) (by show w.heap.size ≤ w.heap.size + 1; omega) _) (by show w.heap.size ≤ w.heap.size + 1; omega) _) (by show w.heap.size ≤ w.heap.size + 1; omega) _⟩
      | true =>
        rw [hE, hq, if_pos rfl] at HDE
        by_cases hr : (PM.bs (PM.tfR s.data.toList)).toList = []
        · have HYE := Lib.hid (hye hW (hrn hr) hq)
          clear hno hye hok hE hrr hrn hW hq
          generalize PM.tfP s.data.toList = p at *
          generalize PM.bs (PM.tfR s.data.toList) = sr at *
          generalize sdI p = I at *
          generalize sdT p = U at *
          generalize sdM p = ml at *
          generalize PM.bs (sdD p) = st at *
          generalize PM.bs p = sp at *
          go_enter Tryz.func6, Tryz.ntmps6
          go_wp2_with fail
          refine HR.out.mono ?_
          rintro e w1 ⟨rfl, hb⟩
          have RB1 := Lib.hid (HRB.out _ hb)
          clear hb
          go_wp2_with fail
          refine (HTF.out _).mono ?_
          rintro e w2 ⟨rfl, hb⟩
          have RB2 := Lib.hid (And.intro (RB1.out.1.below hb) (RB1.out.2.trans (hb.mono RB1.out.2.size)))
          clear hb
          go_wp2_with fail
          refine (HDE.out _).mono ?_
          rintro e w3 ⟨⟨v3, rfl, ho⟩, hb⟩
          obtain ⟨a3, c3, rfl⟩ := ho.slice
          have hb3 := hb.alloc hb.size (.cells #[.int .u64 (I : Nat), .int .u64 (U : Nat), .slice a3 ml.length c3, .string st] 28)
          have RB3 := Lib.hid (And.intro (RB2.out.1.below hb3) (RB2.out.2.trans (hb3.mono RB2.out.2.size)))
          have HO3 := Lib.hid ((ho.less (b2 := w.heap.size + 2) (by have := RB2.out.1.lt; omega)).below ((Below.refl w3.heap.size w3).alloc (Nat.le_refl _) (.cells #[.int .u64 (I : Nat), .int .u64 (U : Nat), .slice a3 ml.length c3, .string st] 28)))
          have HS3 := Lib.hid (Bx4.made w3 (.int .u64 (I : Nat)) (.int .u64 (U : Nat)) (.slice a3 ml.length c3) (.string st) 28)
          clear hb ho hb3
          obtain ⟨s0', s1', s2', s3'⟩ := HS3.out.cells
          obtain ⟨r0, r1, r2, r3⟩ := RB3.out.1.cells
          obtain ⟨f0, f1, f2, f3⟩ := RB3.out.1.fz
          go_wp2
          refine bodyPost_snap rfl (w.heap.size + 1) I U (.slice a3 ml.length c3) st rfl rfl ?_ ?_
          case refine_1 => exact (((RB3.out.1.set0 _).set1 _).set2 _).set3 _
          case refine_2 => exact ⟨HYE.out _ _ (((((HO3.out.put (p := w.heap.size + 1) (by omega) 0 _).put (p := w.heap.size + 1) (by omega) 1 _).put (p := w.heap.size + 1) (by omega) 2 _).put (p := w.heap.size + 1) (by omega) 3 _).less (by omega)), bset (bset (bset (bset RB3.out.2 (by show w.heap.size ≤ w.heap.size + 1; omega) _) (by show w.heap.size ≤ w.heap.size + 1; omega) _) (by show w.heap.size ≤ w.heap.size + 1; omega) _) (by show w.heap.size ≤ w.heap.size + 1; omega) _⟩
        · have hr' : (PM.bs (PM.tfR s.data.toList)).toList.isEmpty = false := by rw [← Bool.not_eq_true, List.isEmpty_iff]; exact hr
          have HNO := Lib.hid (hno (by rw [hok, hq, hrr, hr']; rfl))
          clear hno hye hok hE hrr hrn hW hq
          generalize PM.tfP s.data.toList = p at *
          generalize PM.bs (PM.tfR s.data.toList) = sr at *
          generalize sdI p = I at *
          generalize sdT p = U at *
          generalize sdM p = ml at *
          generalize PM.bs (sdD p) = st at *
          generalize PM.bs p = sp at *
          go_enter Tryz.func6, Tryz.ntmps6
          go_wp2_with fail
          refine HR.out.mono ?_
          rintro e w1 ⟨rfl, hb⟩
          have RB1 := Lib.hid (HRB.out _ hb)
          clear hb
          go_wp2_with fail
          refine (HTF.out _).mono ?_
          rintro e w2 ⟨rfl, hb⟩
          have RB2 := Lib.hid (And.intro (RB1.out.1.below hb) (RB1.out.2.trans (hb.mono RB1.out.2.size)))
          clear hb
          go_wp2_with fail
          refine (HDE.out _).mono ?_
          rintro e w3 ⟨⟨v3, rfl, ho⟩, hb⟩
          obtain ⟨a3, c3, rfl⟩ := ho.slice
          have hb3 := hb.alloc hb.size (.cells #[.int .u64 (I : Nat), .int .u64 (U : Nat), .slice a3 ml.length c3, .string st] 28)
          have RB3 := Lib.hid (And.intro (RB2.out.1.below hb3) (RB2.out.2.trans (hb3.mono RB2.out.2.size)))
          have HO3 := Lib.hid ((ho.less (b2 := w.heap.size + 2) (by have := RB2.out.1.lt; omega)).below ((Below.refl w3.heap.size w3).alloc (Nat.le_refl _) (.cells #[.int .u64 (I : Nat), .int .u64 (U : Nat), .slice a3 ml.length c3, .string st] 28)))
          have HS3 := Lib.hid (Bx4.made w3 (.int .u64 (I : Nat)) (.int .u64 (U : Nat)) (.slice a3 ml.length c3) (.string st) 28)
          clear hb ho hb3
          obtain ⟨s0', s1', s2', s3'⟩ := HS3.out.cells
          obtain ⟨r0, r1, r2, r3⟩ := RB3.out.1.cells
          obtain ⟨f0, f1, f2, f3⟩ := RB3.out.1.fz
          go_wp2
          refine bodyPost_snap rfl (w.heap.size + 1) 0 0 (.slice none 0 0) ⟨#[]⟩ rfl rfl ?_ ?_
          case refine_1 => exact (((RB3.out.1.set0 _).set1 _).set2 _).set3 _
          case refine_2 => exact ⟨HNO.out _, bset (bset (bset (bset RB3.out.2 (by show w.heap.size ≤ w.heap.size + 1; omega) _) (by show w.heap.size ≤ w.heap.size + 1; omega) _) (by show w.heap.size ≤ w.heap.size + 1; omega) _) (by show w.heap.size ≤ w.heap.size + 1; omega) _⟩
    · have HNO := Lib.hid (hno (by rw [hok, decide_eq_false hW]; rfl))
      have g1 : (((PM.tfW s.data.toList : Nat) : Int) != 0) = true := by simp; omega
      have g2 : ¬ ((PM.tfW s.data.toList : Nat) : Int) = 0 := by omega
      clear hno hye hok hE hrr hrn hW
      generalize PM.tfW s.data.toList = W at *
      generalize PM.tfP s.data.toList = p at *
      generalize PM.bs (PM.tfR s.data.toList) = sr at *
      generalize sdE p = E at *
      generalize sdI p = I at *
      generalize sdT p = U at *
      generalize sdM p = ml at *
      generalize PM.bs (sdD p) = st at *
      generalize PM.bs p = sp at *
      go_enter Tryz.func6, Tryz.ntmps6
      go_wp2_with fail
      refine HR.out.mono ?_
      rintro e w1 ⟨rfl, hb⟩
      have RB1 := Lib.hid (HRB.out _ hb)
      clear hb
      go_wp2_with fail
      refine (HTF.out _).mono ?_
      rintro e w2 ⟨rfl, hb⟩
      have RB2 := Lib.hid (And.intro (RB1.out.1.below hb) (RB1.out.2.trans (hb.mono RB1.out.2.size)))
      clear hb
      go_wp2_with fail
      refine (HDE.out _).mono ?_
      rintro e w3 ⟨⟨v3, rfl, ho⟩, hb⟩
      obtain ⟨a3, c3, rfl⟩ := ho.slice
      have hb3 := hb.alloc hb.size (.cells #[.int .u64 (I : Nat), .int .u64 (U : Nat), .slice a3 ml.length c3, .string st] 28)
      have RB3 := Lib.hid (And.intro (RB2.out.1.below hb3) (RB2.out.2.trans (hb3.mono RB2.out.2.size)))
      have HO3 := Lib.hid ((ho.less (b2 := w.heap.size + 2) (by have := RB2.out.1.lt; omega)).below ((Below.refl w3.heap.size w3).alloc (Nat.le_refl _) (.cells #[.int .u64 (I : Nat), .int .u64 (U : Nat), .slice a3 ml.length c3, .string st] 28)))
      have HS3 := Lib.hid (Bx4.made w3 (.int .u64 (I : Nat)) (.int .u64 (U : Nat)) (.slice a3 ml.length c3) (.string st) 28)
      clear hb ho hb3
      obtain ⟨s0', s1', s2', s3'⟩ := HS3.out.cells
      obtain ⟨r0, r1, r2, r3⟩ := RB3.out.1.cells
      obtain ⟨f0, f1, f2, f3⟩ := RB3.out.1.fz
      go_wp2
      refine bodyPost_snap rfl (w.heap.size + 1) 0 0 (.slice none 0 0) ⟨#[]⟩ rfl rfl ?_ ?_
      case refine_1 => exact (((RB3.out.1.set0 _).set1 _).set2 _).set3 _
      case refine_2 => exact ⟨HNO.out _, bset (bset (bset (bset RB3.out.2 (by show w.heap.size ≤ w.heap.size + 1; omega) _) (by show w.heap.size ≤ w.heap.size + 1; omega) _) (by show w.heap.size ≤ w.heap.size + 1; omega) _) (by show w.heap.size ≤ w.heap.size + 1; omega) _⟩
  · by_cases h6 : rdE fs dn nSn = 6
    · have HN := Lib.hid (fun w' => LoadS.none_ (w := w) (w' := w') h6)
      have h6' : rdE fs dn ⟨#[115, 110, 97, 112]⟩ = 6 := h6
      rw [h6'] at HR
      clear h0 h6 h6' hsz
      generalize rdS fs dn ⟨#[115, 110, 97, 112]⟩ = s at *
      go_enter Tryz.func6, Tryz.ntmps6
      go_wp2_with fail
      refine HR.out.mono ?_
      rintro e w1 ⟨rfl, hb⟩
      have RB1 := Lib.hid (HRB.out _ hb)
      clear hb
      obtain ⟨r0, r1, r2, r3⟩ := RB1.out.1.cells
      obtain ⟨f0, f1, f2, f3⟩ := RB1.out.1.fz
      go_wp2
      refine bodyPost_snap rfl (w.heap.size + 1) 0 0 (.slice none 0 0) ⟨#[]⟩ rfl rfl ?_ ?_
      case refine_1 => exact (((RB1.out.1.set0 _).set1 _).set2 _).set3 _
      case refine_2 => exact ⟨HN.out _, bset (bset (bset (bset RB1.out.2 (by show w.heap.size ≤ w.heap.size + 1; omega) _) (by show w.heap.size ≤ w.heap.size + 1; omega) _) (by show w.heap.size ≤ w.heap.size + 1; omega) _) (by show w.heap.size ≤ w.heap.size + 1; omega) _⟩
    · have HN := Lib.hid (fun w' => LoadS.bad (w := w) (w' := w') h6 h0)
      have e9 : rdE fs dn ⟨#[115, 110, 97, 112]⟩ = rdE fs dn nSn := rfl
      rw [e9] at HR
      have h0' : ¬ ((rdE fs dn nSn : Int) = 0) := by omega
      have h6' : ¬ ((rdE fs dn nSn : Int) = 6) := by omega
      have h0'' : (((rdE fs dn nSn : Nat) : Int) == 0) = false := by simp; omega
      have h6'' : (((rdE fs dn nSn : Nat) : Int) == 6) = false := by simp; omega
      clear h0 h6 hsz e9
      generalize rdS fs dn ⟨#[115, 110, 97, 112]⟩ = s at *
      generalize rdE fs dn nSn = re at *
      go_enter Tryz.func6, Tryz.ntmps6
      go_wp2_with fail
      refine HR.out.mono ?_
      rintro e w1 ⟨rfl, hb⟩
      have RB1 := Lib.hid (HRB.out _ hb)
      clear hb
      obtain ⟨r0, r1, r2, r3⟩ := RB1.out.1.cells
      obtain ⟨f0, f1, f2, f3⟩ := RB1.out.1.fz
      go_wp2
      refine bodyPost_snap rfl (w.heap.size + 1) 0 0 (.slice none 0 0) ⟨#[]⟩ rfl rfl ?_ ?_
      case refine_1 => exact (((RB1.out.1.set0 _).set1 _).set2 _).set3 _
      case refine_2 => exact ⟨HN.out _, bset (bset (bset (bset RB1.out.2 (by show w.heap.size ≤ w.heap.size + 1; omega) _) (by show w.heap.size ≤ w.heap.size + 1; omega) _) (by show w.heap.size ≤ w.heap.size + 1; omega) _) (by show w.heap.size ≤ w.heap.size + 1; omega) _⟩
end Dk
end Go.Proofs.YtgahilemlnoabaaGreat

/- THE DOCUMENT'S ANSWER: gafferref05.Save. -/
namespace Go.Proofs.YtgahilemlnoabaaGreat
open Go.RowKit Go.Lib Go.Sort
namespace Dk
set_option maxRecDepth 100000 in
set_option maxHeartbeats 8000000 in
theorem saver_no (dv : Value) (dn : Bool) (fu : Int) (fs : List Fl) (h40 : fs.length * 40 ≤ 140737488355328) (i t : Nat) (v : Value) (ks : List Int) (d : ByteArray) (w : World) (hf : Files w w.heap.size dv fs) (hk : Ints w w.heap.size v ks) (hno : svE fs dn i t ks d ≠ 0) :
    Calls Tryz.prog 8 #[.agg #[dv, .bool dn, .int .i64 fu], .agg #[.int .u64 (i : Nat), .int .u64 (t : Nat), v, .string d]] w (DoW w (.slice none 0 0) (nonO fs dn fu).fs (nonO fs dn fu).dn (nonO fs dn fu).fu (svE fs dn i t ks d)) := by
  have HF := Lib.hid hf
  have HI := Lib.hid hk
  obtain ⟨a, c, rfl⟩ := files_slice hf
  obtain ⟨va, vc, rfl, -⟩ := hk
  have hck := fun x hx => Hd.check_ref5 i t (.slice va ks.length vc) ks d x hx
  have HLD0 := fun x hx => load_ref5 (.slice a fs.length c) dn fu fs x hx
  unfold LoadS at HLD0
  have hcd := fun x hx => check_ref (.slice a fs.length c) dn fu fs x hx
  have hco := fun x hx => copy_ref (.slice a fs.length c) dn fu fs x hx h40
  unfold CopyIs at hco
  have HFI := Lib.hid HF.out.fine
  have HL := Lib.hid (show fs.length ≤ 4611686018427387904 by omega)
  have hv0 : Sv w (((w.alloc (.cells #[.slice a fs.length c, .bool dn, .int .i64 fu] 24)).alloc (.cells #[.int .u64 (i : Nat), .int .u64 (t : Nat), .slice va ks.length vc, .string d] 28)).alloc (.cells #[.slice none 0 0, .bool false, .int .i64 0] 24)) (.slice a fs.length c) dn fu (.int .u64 (i : Nat)) (.int .u64 (t : Nat)) (.slice va ks.length vc) (.string d) := Sv.made w _ _ _ _ _ _ _ _
  have HV0 := Lib.hid hv0
  have ht2 := chk_two fs
  unfold svE rfN at hno ⊢
  generalize lsI fs dn = lI at *
  generalize lsT fs dn = lT at *
  generalize lsM fs dn = lm at *
  generalize PM.bs (lsD fs dn) = ld at *
  generalize lsE fs dn = le at *
  have HLD := Lib.hid HLD0
  clear HLD0 hf hv0 h40
  have hn : fs.length = fs.length := rfl
  generalize hnn : fs.length = n at *
  have HN := Lib.hid hnn
  clear hn hnn
  by_cases hz : chkN fs = 0
  · have hno2 : nonO fs dn fu = ⟨fs, dn, fu, 0⟩ := by unfold nonO; rw [if_pos hz]
    rw [hno2]
    simp only
    rw [hz] at hcd
    have HCD := Lib.hid hcd
    have HCO := Lib.hid hco
    clear hcd hco hno2 hz ht2
    by_cases h0 : Hd.chkS i t ks d = 0
    · rw [if_pos h0] at hno ⊢
      rw [h0] at hck
      have HCK := Lib.hid hck
      clear hck h0
      by_cases hle : le = 0
      · subst hle
        rw [if_neg (by simp)] at hno ⊢
        have hlt : i < lI := Decidable.byContradiction fun h => hno (if_neg h)
        rw [if_pos hlt]
        have hlt1 : ((i : Nat) : Int) < ((lI : Nat) : Int) := by omega
        have hlt2 : decide (((i : Nat) : Int) < ((lI : Nat) : Int)) = true := decide_eq_true hlt1
        clear hno hlt
        unfold DoW
        go_enter Tryz.func8, Tryz.ntmps8
        go_wp2_with fail
        refine (HCK.out _ (HI.out.on HV0.out.bl)).mono ?_
        rintro e w1 ⟨rfl, hb⟩
        have HV1 := Lib.hid (HV0.out.on hb)
        clear hb
        obtain ⟨d0, d1, d2, d3, d4, d5⟩ := HV1.out.dx
        obtain ⟨s0, s1, s2, s3⟩ := HV1.out.sx.cells
        obtain ⟨x0, x1, x2, x3, x4, x5⟩ := HV1.out.rx
        go_wp2_with fail
        refine (HLD.out _ (HF.out.on HV1.out.bl HV1.out.bl.size)).mono ?_
        rintro e w2 ⟨⟨v2, rfl, ho⟩, hb⟩
        obtain ⟨a2, c2, rfl⟩ := ho.slice
        have hb2 := hb.alloc hb.size (.cells #[.int .u64 (lI : Nat), .int .u64 (lT : Nat), .slice a2 lm.length c2, .string ld] 28)
        have HV2 := Lib.hid (HV1.out.on hb2)
        obtain ⟨o0, o1, o2, o3⟩ := (Hd.Bx4.made w2 (.int .u64 (lI : Nat)) (.int .u64 (lT : Nat)) (.slice a2 lm.length c2) (.string ld) 28).cells
        clear hb hb2 ho
        clear d0 d1 d2 d3 d4 d5 s0 s1 s2 s3 x0 x1 x2 x3 x4 x5
        obtain ⟨d0, d1, d2, d3, d4, d5⟩ := HV2.out.dx
        obtain ⟨s0, s1, s2, s3⟩ := HV2.out.sx.cells
        obtain ⟨x0, x1, x2, x3, x4, x5⟩ := HV2.out.rx
        go_wp2_with fail
        refine (HCD.out _ (HF.out.on HV2.out.bl HV2.out.bl.size)).mono ?_
        rintro e w3 ⟨rfl, hb⟩
        have HV3 := Lib.hid (HV2.out.on hb)
        clear hb
        clear d0 d1 d2 d3 d4 d5 s0 s1 s2 s3 x0 x1 x2 x3 x4 x5
        obtain ⟨d0, d1, d2, d3, d4, d5⟩ := HV3.out.dx
        obtain ⟨s0, s1, s2, s3⟩ := HV3.out.sx.cells
        obtain ⟨x0, x1, x2, x3, x4, x5⟩ := HV3.out.rx
        go_wp2_with fail
        refine (HCO.out _ (HF.out.on HV3.out.bl HV3.out.bl.size)).mono ?_
        rintro e w4 ⟨v4, rfl, hown, hb⟩
        obtain ⟨a4, c4, hv4⟩ := hown.slice
        rw [HN.out] at hv4
        subst hv4
        have HV4 := Lib.hid (HV3.out.on hb)
        have HI4 := Lib.hid (hown.hi.le (B := w.heap.size + 3) HV3.out.sz)
        have HF4 := Lib.hid (hown.files HFI.out (by rw [HN.out]; exact HL.out))
        clear hb hown
        clear d0 d1 d2 d3 d4 d5 s0 s1 s2 s3 x0 x1 x2 x3 x4 x5
        obtain ⟨d0, d1, d2, d3, d4, d5⟩ := HV4.out.dx
        obtain ⟨s0, s1, s2, s3⟩ := HV4.out.sx.cells
        obtain ⟨x0, x1, x2, x3, x4, x5⟩ := HV4.out.rx
        go_wp2
        refine bodyPost_disk rfl (w.heap.size + 1 + 1) (.slice a4 n c4) dn fu rfl rfl ?_ ?_ ?_ ?_
        case refine_1 => go_simp
        case refine_2 => go_simp
        case refine_3 => go_simp
        case refine_4 => exact ⟨_, rfl, HF4.out.put3 HI4.out (by omega), fun B hB _ => HI4.out.le (by omega), below3 HV4.out.bl (by omega)⟩
      · rw [if_pos hle]
        have hle1 : ¬ ((le : Nat) : Int) = 0 := by omega
        have hle2 : (((le : Nat) : Int) != 0) = true := by simp; omega
        have hle3 : (((le : Nat) : Int) == 0) = false := by simp; omega
        clear hno hle
        unfold DoW
        go_enter Tryz.func8, Tryz.ntmps8
        go_wp2_with fail
        refine (HCK.out _ (HI.out.on HV0.out.bl)).mono ?_
        rintro e w1 ⟨rfl, hb⟩
        have HV1 := Lib.hid (HV0.out.on hb)
        clear hb
        obtain ⟨d0, d1, d2, d3, d4, d5⟩ := HV1.out.dx
        obtain ⟨s0, s1, s2, s3⟩ := HV1.out.sx.cells
        obtain ⟨x0, x1, x2, x3, x4, x5⟩ := HV1.out.rx
        go_wp2_with fail
        refine (HLD.out _ (HF.out.on HV1.out.bl HV1.out.bl.size)).mono ?_
        rintro e w2 ⟨⟨v2, rfl, ho⟩, hb⟩
        obtain ⟨a2, c2, rfl⟩ := ho.slice
        have hb2 := hb.alloc hb.size (.cells #[.int .u64 (lI : Nat), .int .u64 (lT : Nat), .slice a2 lm.length c2, .string ld] 28)
        have HV2 := Lib.hid (HV1.out.on hb2)
        obtain ⟨o0, o1, o2, o3⟩ := (Hd.Bx4.made w2 (.int .u64 (lI : Nat)) (.int .u64 (lT : Nat)) (.slice a2 lm.length c2) (.string ld) 28).cells
        clear hb hb2 ho
        clear d0 d1 d2 d3 d4 d5 s0 s1 s2 s3 x0 x1 x2 x3 x4 x5
        obtain ⟨d0, d1, d2, d3, d4, d5⟩ := HV2.out.dx
        obtain ⟨s0, s1, s2, s3⟩ := HV2.out.sx.cells
        obtain ⟨x0, x1, x2, x3, x4, x5⟩ := HV2.out.rx
        go_wp2_with fail
        refine (HCD.out _ (HF.out.on HV2.out.bl HV2.out.bl.size)).mono ?_
        rintro e w3 ⟨rfl, hb⟩
        have HV3 := Lib.hid (HV2.out.on hb)
        clear hb
        clear d0 d1 d2 d3 d4 d5 s0 s1 s2 s3 x0 x1 x2 x3 x4 x5
        obtain ⟨d0, d1, d2, d3, d4, d5⟩ := HV3.out.dx
        obtain ⟨s0, s1, s2, s3⟩ := HV3.out.sx.cells
        obtain ⟨x0, x1, x2, x3, x4, x5⟩ := HV3.out.rx
        go_wp2_with fail
        refine (HCO.out _ (HF.out.on HV3.out.bl HV3.out.bl.size)).mono ?_
        rintro e w4 ⟨v4, rfl, hown, hb⟩
        obtain ⟨a4, c4, hv4⟩ := hown.slice
        rw [HN.out] at hv4
        subst hv4
        have HV4 := Lib.hid (HV3.out.on hb)
        have HI4 := Lib.hid (hown.hi.le (B := w.heap.size + 3) HV3.out.sz)
        have HF4 := Lib.hid (hown.files HFI.out (by rw [HN.out]; exact HL.out))
        clear hb hown
        clear d0 d1 d2 d3 d4 d5 s0 s1 s2 s3 x0 x1 x2 x3 x4 x5
        obtain ⟨d0, d1, d2, d3, d4, d5⟩ := HV4.out.dx
        obtain ⟨s0, s1, s2, s3⟩ := HV4.out.sx.cells
        obtain ⟨x0, x1, x2, x3, x4, x5⟩ := HV4.out.rx
        go_wp2
        refine bodyPost_disk rfl (w.heap.size + 1 + 1) (.slice a4 n c4) dn fu rfl rfl ?_ ?_ ?_ ?_
        case refine_1 => go_simp
        case refine_2 => go_simp
        case refine_3 => go_simp
        case refine_4 => exact ⟨_, rfl, HF4.out.put3 HI4.out (by omega), fun B hB _ => HI4.out.le (by omega), below3 HV4.out.bl (by omega)⟩
    · rw [if_neg h0]
      rw [Hd.chk_four h0] at hck
      have HCK := Lib.hid hck
      clear hck h0 hno
      unfold DoW
      go_enter Tryz.func8, Tryz.ntmps8
      go_wp2_with fail
      refine (HCK.out _ (HI.out.on HV0.out.bl)).mono ?_
      rintro e w1 ⟨rfl, hb⟩
      have HV1 := Lib.hid (HV0.out.on hb)
      clear hb
      obtain ⟨d0, d1, d2, d3, d4, d5⟩ := HV1.out.dx
      obtain ⟨s0, s1, s2, s3⟩ := HV1.out.sx.cells
      obtain ⟨x0, x1, x2, x3, x4, x5⟩ := HV1.out.rx
      go_wp2_with fail
      refine (HCD.out _ (HF.out.on HV1.out.bl HV1.out.bl.size)).mono ?_
      rintro e w3 ⟨rfl, hb⟩
      have HV3 := Lib.hid (HV1.out.on hb)
      clear hb
      clear d0 d1 d2 d3 d4 d5 s0 s1 s2 s3 x0 x1 x2 x3 x4 x5
      obtain ⟨d0, d1, d2, d3, d4, d5⟩ := HV3.out.dx
      obtain ⟨s0, s1, s2, s3⟩ := HV3.out.sx.cells
      obtain ⟨x0, x1, x2, x3, x4, x5⟩ := HV3.out.rx
      go_wp2_with fail
      refine (HCO.out _ (HF.out.on HV3.out.bl HV3.out.bl.size)).mono ?_
      rintro e w4 ⟨v4, rfl, hown, hb⟩
      obtain ⟨a4, c4, hv4⟩ := hown.slice
      rw [HN.out] at hv4
      subst hv4
      have HV4 := Lib.hid (HV3.out.on hb)
      have HI4 := Lib.hid (hown.hi.le (B := w.heap.size + 3) HV3.out.sz)
      have HF4 := Lib.hid (hown.files HFI.out (by rw [HN.out]; exact HL.out))
      clear hb hown
      clear d0 d1 d2 d3 d4 d5 s0 s1 s2 s3 x0 x1 x2 x3 x4 x5
      obtain ⟨d0, d1, d2, d3, d4, d5⟩ := HV4.out.dx
      obtain ⟨s0, s1, s2, s3⟩ := HV4.out.sx.cells
      obtain ⟨x0, x1, x2, x3, x4, x5⟩ := HV4.out.rx
      go_wp2
      refine bodyPost_disk rfl (w.heap.size + 1 + 1) (.slice a4 n c4) dn fu rfl rfl ?_ ?_ ?_ ?_
      case refine_1 => go_simp
      case refine_2 => go_simp
      case refine_3 => go_simp
      case refine_4 => exact ⟨_, rfl, HF4.out.put3 HI4.out (by omega), fun B hB _ => HI4.out.le (by omega), below3 HV4.out.bl (by omega)⟩
  · have hno2 : nonO fs dn fu = ⟨[], false, 0, 0⟩ := by unfold nonO; rw [if_neg hz]
    rw [hno2]
    simp only
    rw [ht2.resolve_left hz] at hcd
    have HCD := Lib.hid hcd
    clear hcd hco hno2 hz ht2
    by_cases h0 : Hd.chkS i t ks d = 0
    · rw [if_pos h0] at hno ⊢
      rw [h0] at hck
      have HCK := Lib.hid hck
      clear hck h0
      by_cases hle : le = 0
      · subst hle
        rw [if_neg (by simp)] at hno ⊢
        have hlt : i < lI := Decidable.byContradiction fun h => hno (if_neg h)
        rw [if_pos hlt]
        have hlt1 : ((i : Nat) : Int) < ((lI : Nat) : Int) := by omega
        have hlt2 : decide (((i : Nat) : Int) < ((lI : Nat) : Int)) = true := decide_eq_true hlt1
        clear hno hlt
        unfold DoW
        go_enter Tryz.func8, Tryz.ntmps8
        go_wp2_with fail
        refine (HCK.out _ (HI.out.on HV0.out.bl)).mono ?_
        rintro e w1 ⟨rfl, hb⟩
        have HV1 := Lib.hid (HV0.out.on hb)
        clear hb
        obtain ⟨d0, d1, d2, d3, d4, d5⟩ := HV1.out.dx
        obtain ⟨s0, s1, s2, s3⟩ := HV1.out.sx.cells
        obtain ⟨x0, x1, x2, x3, x4, x5⟩ := HV1.out.rx
        go_wp2_with fail
        refine (HLD.out _ (HF.out.on HV1.out.bl HV1.out.bl.size)).mono ?_
        rintro e w2 ⟨⟨v2, rfl, ho⟩, hb⟩
        obtain ⟨a2, c2, rfl⟩ := ho.slice
        have hb2 := hb.alloc hb.size (.cells #[.int .u64 (lI : Nat), .int .u64 (lT : Nat), .slice a2 lm.length c2, .string ld] 28)
        have HV2 := Lib.hid (HV1.out.on hb2)
        obtain ⟨o0, o1, o2, o3⟩ := (Hd.Bx4.made w2 (.int .u64 (lI : Nat)) (.int .u64 (lT : Nat)) (.slice a2 lm.length c2) (.string ld) 28).cells
        clear hb hb2 ho
        clear d0 d1 d2 d3 d4 d5 s0 s1 s2 s3 x0 x1 x2 x3 x4 x5
        obtain ⟨d0, d1, d2, d3, d4, d5⟩ := HV2.out.dx
        obtain ⟨s0, s1, s2, s3⟩ := HV2.out.sx.cells
        obtain ⟨x0, x1, x2, x3, x4, x5⟩ := HV2.out.rx
        go_wp2_with fail
        refine (HCD.out _ (HF.out.on HV2.out.bl HV2.out.bl.size)).mono ?_
        rintro e w3 ⟨rfl, hb⟩
        have HV3 := Lib.hid (HV2.out.on hb)
        clear hb
        clear d0 d1 d2 d3 d4 d5 s0 s1 s2 s3 x0 x1 x2 x3 x4 x5
        obtain ⟨d0, d1, d2, d3, d4, d5⟩ := HV3.out.dx
        obtain ⟨s0, s1, s2, s3⟩ := HV3.out.sx.cells
        obtain ⟨x0, x1, x2, x3, x4, x5⟩ := HV3.out.rx
        go_wp2
        refine bodyPost_disk rfl (w.heap.size + 1 + 1) (.slice none 0 0) false 0 rfl rfl ?_ ?_ ?_ ?_
        case refine_1 => go_simp
        case refine_2 => go_simp
        case refine_3 => go_simp
        case refine_4 => exact ⟨_, rfl, ⟨none, 0, rfl, by simp, by simp, by simp⟩, fun B hB _ => hi_none _ _ _, by first | exact HV3.out.bl | exact below3 HV3.out.bl (by omega)⟩
      · rw [if_pos hle]
        have hle1 : ¬ ((le : Nat) : Int) = 0 := by omega
        have hle2 : (((le : Nat) : Int) != 0) = true := by simp; omega
        have hle3 : (((le : Nat) : Int) == 0) = false := by simp; omega
        clear hno hle
        unfold DoW
        go_enter Tryz.func8, Tryz.ntmps8
        go_wp2_with fail
        refine (HCK.out _ (HI.out.on HV0.out.bl)).mono ?_
        rintro e w1 ⟨rfl, hb⟩
        have HV1 := Lib.hid (HV0.out.on hb)
        clear hb
        obtain ⟨d0, d1, d2, d3, d4, d5⟩ := HV1.out.dx
        obtain ⟨s0, s1, s2, s3⟩ := HV1.out.sx.cells
        obtain ⟨x0, x1, x2, x3, x4, x5⟩ := HV1.out.rx
        go_wp2_with fail
        refine (HLD.out _ (HF.out.on HV1.out.bl HV1.out.bl.size)).mono ?_
        rintro e w2 ⟨⟨v2, rfl, ho⟩, hb⟩
        obtain ⟨a2, c2, rfl⟩ := ho.slice
        have hb2 := hb.alloc hb.size (.cells #[.int .u64 (lI : Nat), .int .u64 (lT : Nat), .slice a2 lm.length c2, .string ld] 28)
        have HV2 := Lib.hid (HV1.out.on hb2)
        obtain ⟨o0, o1, o2, o3⟩ := (Hd.Bx4.made w2 (.int .u64 (lI : Nat)) (.int .u64 (lT : Nat)) (.slice a2 lm.length c2) (.string ld) 28).cells
        clear hb hb2 ho
        clear d0 d1 d2 d3 d4 d5 s0 s1 s2 s3 x0 x1 x2 x3 x4 x5
        obtain ⟨d0, d1, d2, d3, d4, d5⟩ := HV2.out.dx
        obtain ⟨s0, s1, s2, s3⟩ := HV2.out.sx.cells
        obtain ⟨x0, x1, x2, x3, x4, x5⟩ := HV2.out.rx
        go_wp2_with fail
        refine (HCD.out _ (HF.out.on HV2.out.bl HV2.out.bl.size)).mono ?_
        rintro e w3 ⟨rfl, hb⟩
        have HV3 := Lib.hid (HV2.out.on hb)
        clear hb
        clear d0 d1 d2 d3 d4 d5 s0 s1 s2 s3 x0 x1 x2 x3 x4 x5
        obtain ⟨d0, d1, d2, d3, d4, d5⟩ := HV3.out.dx
        obtain ⟨s0, s1, s2, s3⟩ := HV3.out.sx.cells
        obtain ⟨x0, x1, x2, x3, x4, x5⟩ := HV3.out.rx
        go_wp2
        refine bodyPost_disk rfl (w.heap.size + 1 + 1) (.slice none 0 0) false 0 rfl rfl ?_ ?_ ?_ ?_
        case refine_1 => go_simp
        case refine_2 => go_simp
        case refine_3 => go_simp
        case refine_4 => exact ⟨_, rfl, ⟨none, 0, rfl, by simp, by simp, by simp⟩, fun B hB _ => hi_none _ _ _, by first | exact HV3.out.bl | exact below3 HV3.out.bl (by omega)⟩
    · rw [if_neg h0]
      rw [Hd.chk_four h0] at hck
      have HCK := Lib.hid hck
      clear hck h0 hno
      unfold DoW
      go_enter Tryz.func8, Tryz.ntmps8
      go_wp2_with fail
      refine (HCK.out _ (HI.out.on HV0.out.bl)).mono ?_
      rintro e w1 ⟨rfl, hb⟩
      have HV1 := Lib.hid (HV0.out.on hb)
      clear hb
      obtain ⟨d0, d1, d2, d3, d4, d5⟩ := HV1.out.dx
      obtain ⟨s0, s1, s2, s3⟩ := HV1.out.sx.cells
      obtain ⟨x0, x1, x2, x3, x4, x5⟩ := HV1.out.rx
      go_wp2_with fail
      refine (HCD.out _ (HF.out.on HV1.out.bl HV1.out.bl.size)).mono ?_
      rintro e w3 ⟨rfl, hb⟩
      have HV3 := Lib.hid (HV1.out.on hb)
      clear hb
      clear d0 d1 d2 d3 d4 d5 s0 s1 s2 s3 x0 x1 x2 x3 x4 x5
      obtain ⟨d0, d1, d2, d3, d4, d5⟩ := HV3.out.dx
      obtain ⟨s0, s1, s2, s3⟩ := HV3.out.sx.cells
      obtain ⟨x0, x1, x2, x3, x4, x5⟩ := HV3.out.rx
      go_wp2
      refine bodyPost_disk rfl (w.heap.size + 1 + 1) (.slice none 0 0) false 0 rfl rfl ?_ ?_ ?_ ?_
      case refine_1 => go_simp
      case refine_2 => go_simp
      case refine_3 => go_simp
      case refine_4 => exact ⟨_, rfl, ⟨none, 0, rfl, by simp, by simp, by simp⟩, fun B hB _ => hi_none _ _ _, by first | exact HV3.out.bl | exact below3 HV3.out.bl (by omega)⟩
end Dk
end Go.Proofs.YtgahilemlnoabaaGreat

/- THE DOCUMENT'S ANSWER: gafferref05.Save, of what is right. -/
namespace Go.Proofs.YtgahilemlnoabaaGreat
open Go.RowKit Go.Lib Go.Sort
namespace Dk
set_option maxRecDepth 100000 in
set_option maxHeartbeats 8000000 in
theorem saver_ok (dv : Value) (fu : Int) (fs : List Fl) (i t : Nat) (v : Value) (ks : List Int) (d : ByteArray) (hi : i < 2 ^ 64) (ht : t < 2 ^ 64) (hc : Hd.chkS i t ks d = 0) (hr : rfN fs false i = 0) (hz : chkN fs = 0) (hs : ∀ f ∈ fs, f.da.size ≤ 140737488355328) (hlo : -9223372036854775808 ≤ fu) (hhi : fu ≤ 9223372036854775807) (w : World) (hf : Files w w.heap.size dv fs) (hk : Ints w w.heap.size v ks) :
    Calls Tryz.prog 8 #[.agg #[dv, .bool false, .int .i64 fu], .agg #[.int .u64 (i : Nat), .int .u64 (t : Nat), v, .string d]] w (DoW w (.slice none 0 0) (seqO nSn nSt (snC i t (ks.map Int.toNat) d) fs false fu 4).fs (seqO nSn nSt (snC i t (ks.map Int.toNat) d) fs false fu 4).dn (seqO nSn nSt (snC i t (ks.map Int.toNat) d) fs false fu 4).fu (seqO nSn nSt (snC i t (ks.map Int.toNat) d) fs false fu 4).r) := by
  have HF := Lib.hid hf
  have HI := Lib.hid hk
  obtain ⟨a, c, rfl⟩ := files_slice hf
  obtain ⟨va, vc, rfl, -⟩ := hk
  have hck := fun x hx => Hd.check_ref5 i t (.slice va ks.length vc) ks d x hx
  have HLD0 := fun x hx => load_ref5 (.slice a fs.length c) false fu fs x hx
  unfold LoadS at HLD0
  have hby := fun x hx => Hd.bytes_ref i t (.slice va ks.length vc) ks d x hx hi ht hc
  have hfr : ∀ x, Calls Tryz.prog 26 #[.string (PM.bs (Hd.snB i t (ks.map Int.toNat) d))] x fun e w' => e = .returned (.tuple #[.string (snC i t (ks.map Int.toNat) d), .int .i64 0]) ∧ Below x.heap.size x w' := by
    intro x
    have hsz : (PM.bs (Hd.snB i t (ks.map Int.toNat) d)).size ≤ 65000 := by rw [PM.bs_size]; exact snB_len (rs_of hi ht hc)
    refine (PackFrame.frame_ref _ x (by unfold maxLen; omega)).mono ?_
    rintro e w' ⟨he, hb⟩
    refine ⟨?_, hb⟩
    rw [he]
    unfold PackFrame.frS PackFrame.frW snC
    rw [if_neg (by omega), if_neg (by omega), PM.bs_data]
    rfl
  have hpt := fun x hx => put_snap (.slice a fs.length c) fu fs (snC i t (ks.map Int.toNat) d) (snC_size (rs_of hi ht hc)) hz hs hlo hhi x hx
  unfold PutIs at hpt
  have hv0 : Sv w (((w.alloc (.cells #[.slice a fs.length c, .bool false, .int .i64 fu] 24)).alloc (.cells #[.int .u64 (i : Nat), .int .u64 (t : Nat), .slice va ks.length vc, .string d] 28)).alloc (.cells #[.slice none 0 0, .bool false, .int .i64 0] 24)) (.slice a fs.length c) false fu (.int .u64 (i : Nat)) (.int .u64 (t : Nat)) (.slice va ks.length vc) (.string d) := Sv.made w _ _ _ _ _ _ _ _
  have HV0 := Lib.hid hv0
  unfold rfN at hr
  generalize lsI fs false = lI at *
  generalize lsT fs false = lT at *
  generalize lsM fs false = lm at *
  generalize PM.bs (lsD fs false) = ld at *
  generalize lsE fs false = le at *
  generalize seqO nSn nSt (snC i t (ks.map Int.toNat) d) fs false fu 4 = O at hpt ⊢
  rcases O with ⟨fs2, dn2, fu2, r2⟩
  simp only at hpt ⊢
  generalize snC i t (ks.map Int.toNat) d = fr at *
  generalize PM.bs (Hd.snB i t (ks.map Int.toNat) d) = by_ at *
  have hle : le = 0 := Decidable.byContradiction fun h => h (by rw [if_pos h] at hr; exact hr)
  subst hle
  rw [if_neg (by simp)] at hr
  have hlt : ¬ i < lI := fun h => by rw [if_pos h] at hr; omega
  have hlt1 : ¬ ((i : Nat) : Int) < ((lI : Nat) : Int) := by omega
  have hlt2 : decide (((i : Nat) : Int) < ((lI : Nat) : Int)) = false := decide_eq_false hlt1
  rw [hc] at hck
  have HCK := Lib.hid hck
  have HLD := Lib.hid HLD0
  have HBY := Lib.hid hby
  have HFR := Lib.hid hfr
  have HPT := Lib.hid hpt
  clear hck HLD0 hby hfr hpt hlt hr hf hv0 hs hz hc
  generalize fs.length = n at *
  unfold DoW
  go_enter Tryz.func8, Tryz.ntmps8
  go_wp2_with fail
  refine (HCK.out _ (HI.out.on HV0.out.bl)).mono ?_
  rintro e w1 ⟨rfl, hb⟩
  have HV1 := Lib.hid (HV0.out.on hb)
  clear hb
  obtain ⟨d0, d1, d2, d3, d4, d5⟩ := HV1.out.dx
  obtain ⟨s0, s1, s2, s3⟩ := HV1.out.sx.cells
  obtain ⟨x0, x1, x2, x3, x4, x5⟩ := HV1.out.rx
  go_wp2_with fail
  refine (HLD.out _ (HF.out.on HV1.out.bl HV1.out.bl.size)).mono ?_
  rintro e w2 ⟨⟨v2, rfl, ho⟩, hb⟩
  obtain ⟨a2, c2, rfl⟩ := ho.slice
  have hb2 := hb.alloc hb.size (.cells #[.int .u64 (lI : Nat), .int .u64 (lT : Nat), .slice a2 lm.length c2, .string ld] 28)
  have HV2 := Lib.hid (HV1.out.on hb2)
  obtain ⟨o0, o1, o2, o3⟩ := (Hd.Bx4.made w2 (.int .u64 (lI : Nat)) (.int .u64 (lT : Nat)) (.slice a2 lm.length c2) (.string ld) 28).cells
  clear hb hb2 ho
  clear d0 d1 d2 d3 d4 d5 s0 s1 s2 s3 x0 x1 x2 x3 x4 x5
  obtain ⟨d0, d1, d2, d3, d4, d5⟩ := HV2.out.dx
  obtain ⟨s0, s1, s2, s3⟩ := HV2.out.sx.cells
  obtain ⟨x0, x1, x2, x3, x4, x5⟩ := HV2.out.rx
  go_wp2_with fail
  refine (HBY.out _ (HI.out.on HV2.out.bl)).mono ?_
  rintro e w5 ⟨rfl, hb⟩
  have HV5 := Lib.hid (HV2.out.on hb)
  clear hb
  clear d0 d1 d2 d3 d4 d5 s0 s1 s2 s3 x0 x1 x2 x3 x4 x5
  obtain ⟨d0, d1, d2, d3, d4, d5⟩ := HV5.out.dx
  obtain ⟨s0, s1, s2, s3⟩ := HV5.out.sx.cells
  obtain ⟨x0, x1, x2, x3, x4, x5⟩ := HV5.out.rx
  go_wp2_with fail
  refine (HFR.out _).mono ?_
  rintro e w6 ⟨rfl, hb⟩
  have HV6 := Lib.hid (HV5.out.on hb)
  clear hb
  clear d0 d1 d2 d3 d4 d5 s0 s1 s2 s3 x0 x1 x2 x3 x4 x5
  obtain ⟨d0, d1, d2, d3, d4, d5⟩ := HV6.out.dx
  obtain ⟨s0, s1, s2, s3⟩ := HV6.out.sx.cells
  obtain ⟨x0, x1, x2, x3, x4, x5⟩ := HV6.out.rx
  go_wp2_with fail
  refine (HPT.out _ (HF.out.on HV6.out.bl HV6.out.bl.size)).mono ?_
  rintro e w7 ⟨a7, c7, rfl, hf7, hh7, hb⟩
  have HV7 := Lib.hid (HV6.out.on hb)
  have HF7 := Lib.hid hf7
  have HH7 := Lib.hid (hh7.le (B := w.heap.size + 3) HV6.out.sz)
  clear hb hf7 hh7
  clear d0 d1 d2 d3 d4 d5 s0 s1 s2 s3 x0 x1 x2 x3 x4 x5
  obtain ⟨d0, d1, d2, d3, d4, d5⟩ := HV7.out.dx
  obtain ⟨s0, s1, s2, s3⟩ := HV7.out.sx.cells
  obtain ⟨x0, x1, x2, x3, x4, x5⟩ := HV7.out.rx
  go_wp2
  refine bodyPost_disk rfl (w.heap.size + 1 + 1) (.slice a7 fs2.length c7) dn2 fu2 rfl rfl ?_ ?_ ?_ ?_
  case refine_1 => go_simp
  case refine_2 => go_simp
  case refine_3 => go_simp
  case refine_4 => exact ⟨_, rfl, HF7.out.put3 HH7.out (by omega), fun B hB _ => HH7.out.le (by omega), below3 HV7.out.bl (by omega)⟩
end Dk
end Go.Proofs.YtgahilemlnoabaaGreat
