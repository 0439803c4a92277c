/-
  WALK of the law on frames in a file, behind a crash.
-/
import Derived.Test.YtnhkpbdggjmgdaaTopMem
import Derived.Test.YtnhkpbdggjmgdaaPackFrame
import Derived.Test.YtnhkpbdggjmgdaaPackTakeFr
import Derived.Test.YtnhkpbdggjmgdaaArg
import Derived.Test.YtnhkpbdggjmgdaaMem
namespace Go.Proofs.Ytnhkpbdggjmgdaa
open Go.RowKit Go.Lib Go.Sort
namespace Dk
open TopMath
/-- A slice of bools that came in. -/
def IsBools (w : World) (B : Nat) (v : Value) (ys : List Bool) : Prop :=
  ∃ a c, v = .slice a ys.length c ∧ ys.length ≤ 4611686018427387904 ∧
    (0 < ys.length → ∃ b off, a = some ⟨b, off, none⟩ ∧ b < B ∧ ∀ i (h : i < ys.length), w.cell? ⟨b, off + i, none⟩ = some (.bool ys[i]))
def encS (s : ByteArray) : Value := .string s
theorem encS_one (l : List ByteArray) : ∀ u ∈ l.map encS, u.oneCell' = true := by
  intro u hu
  obtain ⟨b, _, rfl⟩ := List.mem_map.1 hu
  rfl
theorem info_str : (Try.prog.info? 9).map (fun i => (i.zero, i.size, i.bytes)) = some (some (.string ByteArray.empty), 1, 16) := by kernel_rfl

theorem DoIs.below {w w' : World} {fs : List Fl} {dn : Bool} {fu : Int} {r : Nat} {e : Ending} (h : DoIs w fs dn fu r e w') : Below w.heap.size w w' := by
  obtain ⟨_, _, _, hb⟩ := h; exact hb
theorem st3_own {w : World} {B : Nat} {e : TypeId} {size n : Nat} {u : Value} {xs : List Value} (h : w.ownsRow (B + 1) e size u n xs) (v : Value) (dn : Bool) (fu : Int) : (st3 w B v dn fu).ownsRow (B + 1) e size u n xs :=
  ownsRow_setCell_below (ownsRow_setCell_below (ownsRow_setCell_below h (Nat.lt_succ_self _) _) (Nat.lt_succ_self _) _) (Nat.lt_succ_self _) _
theorem fr_cat_len (ps : List ByteArray) (h : ∀ p ∈ ps, ¬ 65536 < p.size) (hn : ps.length ≤ 40) : (cat ps).length ≤ 2621680 := by
  have : (cat ps).length ≤ ps.length * 65542 := by
    clear hn
    induction ps with
    | nil => simp [cat]
    | cons p ps ih =>
      have h1 := ih (fun q hq => h q (List.mem_cons_of_mem _ hq))
      have h2 := h p (List.mem_cons_self ..)
      have h3 : p.data.toList.length = p.size := rfl
      simp only [cat, List.length_append, PM.frm_length, List.length_cons]
      omega
  omega
theorem left_fine (l : List UInt8) (c : Nat) (h : l.length ≤ 2621680) (hc : c ≤ l.length) : Fine [⟨nF, PM.bs l, (c : Nat)⟩] :=
  fine_one _ ⟨by rw [PM.bs_size]; unfold maxLen; omega, by show (-9223372036854775808 : Int) ≤ (c : Nat); omega, by show ((c : Nat) : Int) ≤ 9223372036854775807; omega⟩
theorem left_fine' (ps : List ByteArray) (k : Nat) (ks : List Int) (h : (cat ps).length ≤ 2621680) : Fine [⟨nF, PM.bs ((cat ps).take (crC ps k ks)), (crC ps k ks : Nat)⟩] := by
  have h1 := crC_within ps k ks
  exact left_fine _ _ (by rw [List.length_take]; omega) (by rw [List.length_take]; omega)
theorem ints_now {w : World} {v : Value} {ks : List Int} (h : Ints w w.heap.size v ks) (x : World) (hb : Below w.heap.size w x) : Ints x x.heap.size v ks := by
  have hs := hb.size
  obtain ⟨a, c, rfl, h1, h2, h3⟩ := h
  refine ⟨a, c, rfl, h1, h2, fun hp => ?_⟩
  obtain ⟨b, off, rfl, hlt, hc⟩ := h3 hp
  exact ⟨b, off, rfl, by omega, fun i hi => (hb.cell (by exact hlt)).trans (hc i hi)⟩

set_option maxRecDepth 100000 in
set_option maxHeartbeats 4000000 in
theorem topFrames (v0 v1 v2 : Value) (ss : List ByteArray) (ys : List Bool) (ks : List Int) (w : World) (h0 : Arg.IsStrs w w.heap.size v0 ss) (h1 : IsBools w w.heap.size v1 ys) (h2 : Ints w w.heap.size v2 ks) :
    Calls Try.prog 3 #[v0, v1, v2] w fun e w' => e = .returned (.bool true) ∧ Below w.heap.size w w' := by
  obtain ⟨i0, hi, hq0, hq1, hq2⟩ := info_parts info_str
  have HK := Lib.hid (fun (x : World) (hb : Below w.heap.size w x) => ints_now h2 x hb)
  obtain ⟨a, c, rfl, hs1, hs2, hs3⟩ := h0
  obtain ⟨ya, yc, rfl, hy2, hy3⟩ := h1
  obtain ⟨ka, kc, rfl, -⟩ := h2
  have HS1 := Lib.hid hs1
  have HS3 := Lib.hid hs3
  have HY3 := Lib.hid hy3
  unfold maxLen at hs2
  clear hs1 hs3 hy3
  go_enter Try.func3, Try.ntmps3
  go_wp2_with fail
  refine (begins_true _).mono ?_
  rintro e w1 ⟨rfl, hb1⟩
  have HB1 := Lib.hid hb1
  have hz1 := hb1.size
  clear hb1
  go_wp2
  go_loopg [8, 9, 25] ss.length (fun g u su i wx => ∃ (j k : Nat) (ps : List ByteArray) (va : Option Addr) (vc : Nat), j + g = ss.length ∧ i = .int .i64 j ∧ su = .int .i64 k ∧ ps.length = j ∧ k ≤ j ∧ j ≤ 40 ∧ Aside (∀ p ∈ ps, ¬ 65536 < p.size) ∧
    wx.ownsRow (w1.heap.size + 1) 9 1 u ps.length (ps.map encS) ∧ Aside (St w w1.heap.size wx (.slice va (fsOf ps k).length vc) false (-1) (fsOf ps k)))
  case atStart => exact ⟨0, 0, [], none, 0, by omega, rfl, rfl, rfl, by omega, by omega, (fun p hp => by cases hp), World.ownsRow_nil _ _ _ _, ⟨hz1, by simp, HB1.out.alloc hz1 _, Dx.made _ _ _ _, nil_files _⟩⟩
  case round =>
    obtain ⟨j, k, ps, va, vc, hjg, rfl, rfl, hpl, hkj, hj40, HP, hown, HST⟩ := hrel
    obtain ⟨d0, d1, d2, d3, d4, d5⟩ := HST.out.dx
    have hlt := HST.out.hi
    obtain ⟨au, cu, rfl⟩ := Arg.len_own hown
    rcases Nat.lt_or_ge j ss.length with h | h
    · by_cases h40 : j = 40
      · subst h40
        have HJ := Lib.hid hjg
        obtain ⟨b, off, rfl, hblt, hc⟩ := HS3.out (by omega)
        have hcell : wr.cell? ⟨b, off + 40, none⟩ = some (.string ss[40]) := (HST.out.below.cell hblt).trans (hc 40 h)
        have hpz := HS1.out ss[40] (List.getElem_mem h)
        generalize ss[40] = p at *
        have hfr := fun w => PackFrame.frame_own p w hpz
        unfold PackFrame.Framed at hfr
        have HFR := Lib.hid hfr
        have hlk : (40 : Int) < (ss.length : Int) := by omega
        clear hfr hpz hc hjg
        go_wp2_with fail
        refine (HFR.out _).mono ?_
        rintro e w2 ⟨rfl, hb2⟩
        have HQ := Lib.hid (HST.out.keep hb2)
        have hownQ := Arg.own_below hown hb2
        obtain ⟨d0, d1, d2, d3, d4, d5⟩ := HQ.out.dx
        have hlt := HQ.out.hi
        clear hb2
        have hkq : k ≤ ps.length := by omega
        have hp40 : ps.length ≤ 40 := by omega
        clear hpl hkj hj40
        by_cases hps : ps = []
        · subst hps
          have HQ2 := HQ.out
          rw [fsOf_nil] at HQ2
          have HC := Lib.hid (crash_nil _ _ ks _ HQ2.files (HK.out _ HQ2.below))
          have HQ3 := Lib.hid HQ2
          clear HQ2 hown hownQ
          go_wp2_with fail
          refine HC.out.mono ?_
          intro e w3 hd
          obtain ⟨v3, rfl, ⟨a3, c3, rfl⟩, hs, hS, _⟩ := HQ3.out.step hd (by intro f hf; simp at hf) (by simp)
          obtain ⟨d0, d1, d2, d3, d4, d5⟩ := hs.dx
          have HS3 := Lib.hid hS
          unfold st3 at HS3
          clear hS hs hd
          go_wp2_with fail
          refine (read_nothing _ _ HS3.out.files).mono ?_
          rintro e w4 ⟨rfl, hb4⟩
          have HB5 := Lib.hid (HS3.out.keep hb4).below
          clear hb4
          go_wp2
          go_ret
          exact ⟨by rfl, HB5.out⟩
        · have hcl := fr_cat_len ps HP.out hp40
          have hfq := fsOf_some ps k hps
          have hkl := HK.out _ HQ.out.below
          have HC := Lib.hid (crash_some _ _ ps k ks hps _ HQ.out.files hkl)
          have HF := Lib.hid (left_fine' ps k ks hcl)
          have HOQ := Lib.hid hownQ
          clear hown hownQ hkl hcl hfq
          go_wp2_with fail
          refine HC.out.mono ?_
          intro e w3 hd
          have hown3 := Arg.own_below HOQ.out hd.below
          obtain ⟨v3, rfl, ⟨a3, c3, rfl⟩, hs, hS, _⟩ := HQ.out.step hd HF.out (by simp)
          obtain ⟨d0, d1, d2, d3, d4, d5⟩ := hs.dx
          have hown4 := st3_own hown3 (.slice a3 1 c3) false (-1)
          have HO4 := Lib.hid hown4
          have HS3 := Lib.hid hS
          unfold st3 at HS3 HO4
          clear hS hs hd hown3 hown4
          generalize hcc : crC ps k ks = cc at *
          have HCC := Lib.hid (crC_within ps k ks)
          rw [hcc] at HCC
          have hle : cc ≤ ((cat ps).take cc).length := by rw [List.length_take]; have := HCC.out.2; omega
          have HR := Lib.hid (read_left _ _ cc hle _ HS3.out.files)
          have hpl0 : ¬ ((ps.length : Int) = 0) := by
            have : ps.length ≠ 0 := fun h0 => hps (List.length_eq_zero_iff.1 h0)
            omega
          have hpl1 : ((ps.length : Int) == 0) = false := by simpa using hpl0
          clear hle
          go_wp2_with fail
          refine HR.out.mono ?_
          rintro e w4 ⟨rfl, hb4⟩
          have HO5 := Lib.hid (Arg.own_below HO4.out hb4)
          have HB5 := Lib.hid (HS3.out.keep hb4).below
          clear hb4
          rw [← lef_zero] 
          have HKQ := Lib.hid hkq
          have HCL := Lib.hid (fr_cat_len ps HP.out hp40)
          go_wp2
          try rw [hpl1]
          go_loopg [14, 16] ps.length (fun g l n wx => ∃ m : Nat, m + g = ps.length ∧ n = .int .i64 m ∧ l = .string (PM.bs (lef ps cc m)) ∧ (cat (ps.take m)).length ≤ cc ∧ wx.ownsRow (w1.heap.size + 1) 9 1 (.slice au ps.length cu) ps.length (ps.map encS) ∧ Below w.heap.size w wx)
          case atStart => exact ⟨0, by omega, rfl, rfl, by simp [cat], HO5.out, HB5.out⟩
          case round =>
            obtain ⟨m, hmg, rfl, rfl, hcm, hown6, hbel6⟩ := hrel
            have hml : (m : Int) ≤ (ps.length : Int) := by omega
            have hsz6 : (PM.bs (lef ps cc m)).size ≤ maxLen := by
              have h1 := lef_len ps cc m
              have h2 := HCL.out
              rw [PM.bs_size]; unfold maxLen; omega
            have htf := fun w => PackTakeFr.takeFrame_own (PM.bs (lef ps cc m)) w hsz6
            unfold PackTakeFr.TookF at htf
            rw [PM.bs_data] at htf
            by_cases hin : m < ps.length ∧ (cat (ps.take (m + 1))).length ≤ cc
            · obtain ⟨hm, hc1⟩ := hin
              have hne : ¬ ((m : Int) = (ps.length : Int)) := by omega
              have k1 := step_whole ps cc m hm (HP.out ps[m] (List.getElem_mem hm)) hc1
              rw [k1.1, k1.2.1, k1.2.2, PM.bs_of] at htf
              have HTF := Lib.hid htf
              obtain ⟨g0, cap0, hgv, hgb, hgl⟩ := Arg.own_form hown6 (by omega)
              have hav : au = some ⟨g0, 0, none⟩ := by injection hgv
              subst hav
              have hc2 := hown6.cellAt m (by omega)
              rw [List.getElem?_map, List.getElem?_eq_getElem hm] at hc2
              generalize hp : ps[m] = p at *
              have hcell : wr.cell? ⟨g0, m, none⟩ = some (.string p) := hc2
              cases gk with
              | zero => exact absurd hmg (by omega)
              | succ g =>
                have HG := Lib.hid hmg
                have HC1 := Lib.hid hc1
                have H6 := Lib.hid hown6
                have H7 := Lib.hid hbel6
                clear htf k1 hc2 hp hmg hc1 hown6 hbel6 hcm hsz6
                go_wp2_with fail
                refine (HTF.out _).mono ?_
                rintro e w5 ⟨rfl, hb5⟩
                have hcell5 := (hb5.cell (p := ⟨g0, m, none⟩) hgl).trans hcell
                have H8 := Lib.hid (Arg.own_below H6.out hb5)
                have H9 := Lib.hid (H7.out.trans (hb5.mono H7.out.size))
                clear hb5 hcell
                go_wp2
                go_roundg g
                case measure => omega
                case rel => exact ⟨m + 1, by have := HG.out; omega, by go_num, rfl, HC1.out, H8.out, H9.out⟩
            · have h3 : PM.tfW (lef ps cc m) = 3 ∧ k ≤ m := by
                rcases Nat.lt_or_ge m ps.length with hm | hm
                · have hc2 : cc < (cat (ps.take (m + 1))).length := by
                    rcases Nat.lt_or_ge cc (cat (ps.take (m + 1))).length with h | h
                    · exact h
                    · exact absurd ⟨hm, h⟩ hin
                  exact ⟨step_short ps cc m hm (HP.out ps[m] (List.getElem_mem hm)) hc2, sure_le ps cc m k HCC.out.1 hc2⟩
                · have e9 : m = ps.length := by omega
                  rw [e9, lef_end]
                  exact ⟨nil_tfW, HKQ.out⟩
              have hkm : (k : Int) ≤ (m : Int) := by have := h3.2; omega
              rw [h3.1] at htf
              have HTF := Lib.hid htf
              have H7 := Lib.hid hbel6
              clear htf h3 hmg hcm hown6 hbel6 hsz6 hin
              go_wp2_with fail
              refine (HTF.out _).mono ?_
              rintro e w5 ⟨rfl, hb5⟩
              have H9 := Lib.hid (H7.out.trans (hb5.mono H7.out.size))
              clear hb5
              go_wp2
              go_ret
              exact ⟨by rfl, H9.out⟩
      · have hj2 : j < 40 := by omega
        have h41 : ¬ ((j : Int) = 40) := by omega
        obtain ⟨b, off, rfl, hblt, hc⟩ := HS3.out (by omega)
        have hcell : wr.cell? ⟨b, off + j, none⟩ = some (.string ss[j]) := (HST.out.below.cell hblt).trans (hc j h)
        have hpz := HS1.out ss[j] (List.getElem_mem h)
        generalize ss[j] = p at *
        have hfr := fun w => PackFrame.frame_own p w hpz
        unfold PackFrame.Framed at hfr
        have hlk : (j : Int) < (ss.length : Int) := by omega
        have HC := Lib.hid hc
        clear hc
        by_cases hbig : 65536 < p.size
        · have e2 : PackFrame.frW p = 2 := by unfold PackFrame.frW; rw [if_pos hbig]
          rw [e2] at hfr
          have HFR := Lib.hid hfr
          clear hfr hpz hjg e2 hbig
          go_wp2_with fail
          refine (HFR.out _).mono ?_
          rintro e w2 ⟨rfl, hb2⟩
          have HQ := Lib.hid (HST.out.keep hb2)
          have hownQ := Arg.own_below hown hb2
          obtain ⟨d0, d1, d2, d3, d4, d5⟩ := HQ.out.dx
          have hlt := HQ.out.hi
          clear hb2
          have hkq : k ≤ ps.length := by omega
          have hp40 : ps.length ≤ 40 := by omega
          clear hpl hkj hj40
          by_cases hps : ps = []
          · subst hps
            have HQ2 := HQ.out
            rw [fsOf_nil] at HQ2
            have HC := Lib.hid (crash_nil _ _ ks _ HQ2.files (HK.out _ HQ2.below))
            have HQ3 := Lib.hid HQ2
            clear HQ2 hown hownQ
            go_wp2_with fail
            refine HC.out.mono ?_
            intro e w3 hd
            obtain ⟨v3, rfl, ⟨a3, c3, rfl⟩, hs, hS, _⟩ := HQ3.out.step hd (by intro f hf; simp at hf) (by simp)
            obtain ⟨d0, d1, d2, d3, d4, d5⟩ := hs.dx
            have HS3 := Lib.hid hS
            unfold st3 at HS3
            clear hS hs hd
            go_wp2_with fail
            refine (read_nothing _ _ HS3.out.files).mono ?_
            rintro e w4 ⟨rfl, hb4⟩
            have HB5 := Lib.hid (HS3.out.keep hb4).below
            clear hb4
            go_wp2
            go_ret
            exact ⟨by rfl, HB5.out⟩
          · have hcl := fr_cat_len ps HP.out hp40
            have hfq := fsOf_some ps k hps
            have hkl := HK.out _ HQ.out.below
            have HC := Lib.hid (crash_some _ _ ps k ks hps _ HQ.out.files hkl)
            have HF := Lib.hid (left_fine' ps k ks hcl)
            have HOQ := Lib.hid hownQ
            clear hown hownQ hkl hcl hfq
            go_wp2_with fail
            refine HC.out.mono ?_
            intro e w3 hd
            have hown3 := Arg.own_below HOQ.out hd.below
            obtain ⟨v3, rfl, ⟨a3, c3, rfl⟩, hs, hS, _⟩ := HQ.out.step hd HF.out (by simp)
            obtain ⟨d0, d1, d2, d3, d4, d5⟩ := hs.dx
            have hown4 := st3_own hown3 (.slice a3 1 c3) false (-1)
            have HO4 := Lib.hid hown4
            have HS3 := Lib.hid hS
            unfold st3 at HS3 HO4
            clear hS hs hd hown3 hown4
            generalize hcc : crC ps k ks = cc at *
            have HCC := Lib.hid (crC_within ps k ks)
            rw [hcc] at HCC
            have hle : cc ≤ ((cat ps).take cc).length := by rw [List.length_take]; have := HCC.out.2; omega
            have HR := Lib.hid (read_left _ _ cc hle _ HS3.out.files)
            have hpl0 : ¬ ((ps.length : Int) = 0) := by
              have : ps.length ≠ 0 := fun h0 => hps (List.length_eq_zero_iff.1 h0)
              omega
            have hpl1 : ((ps.length : Int) == 0) = false := by simpa using hpl0
            clear hle
            go_wp2_with fail
            refine HR.out.mono ?_
            rintro e w4 ⟨rfl, hb4⟩
            have HO5 := Lib.hid (Arg.own_below HO4.out hb4)
            have HB5 := Lib.hid (HS3.out.keep hb4).below
            clear hb4
            rw [← lef_zero] 
            have HKQ := Lib.hid hkq
            have HCL := Lib.hid (fr_cat_len ps HP.out hp40)
            go_wp2
            try rw [hpl1]
            go_loopg [14, 16] ps.length (fun g l n wx => ∃ m : Nat, m + g = ps.length ∧ n = .int .i64 m ∧ l = .string (PM.bs (lef ps cc m)) ∧ (cat (ps.take m)).length ≤ cc ∧ wx.ownsRow (w1.heap.size + 1) 9 1 (.slice au ps.length cu) ps.length (ps.map encS) ∧ Below w.heap.size w wx)
            case atStart => exact ⟨0, by omega, rfl, rfl, by simp [cat], HO5.out, HB5.out⟩
            case round =>
              obtain ⟨m, hmg, rfl, rfl, hcm, hown6, hbel6⟩ := hrel
              have hml : (m : Int) ≤ (ps.length : Int) := by omega
              have hsz6 : (PM.bs (lef ps cc m)).size ≤ maxLen := by
                have h1 := lef_len ps cc m
                have h2 := HCL.out
                rw [PM.bs_size]; unfold maxLen; omega
              have htf := fun w => PackTakeFr.takeFrame_own (PM.bs (lef ps cc m)) w hsz6
              unfold PackTakeFr.TookF at htf
              rw [PM.bs_data] at htf
              by_cases hin : m < ps.length ∧ (cat (ps.take (m + 1))).length ≤ cc
              · obtain ⟨hm, hc1⟩ := hin
                have hne : ¬ ((m : Int) = (ps.length : Int)) := by omega
                have k1 := step_whole ps cc m hm (HP.out ps[m] (List.getElem_mem hm)) hc1
                rw [k1.1, k1.2.1, k1.2.2, PM.bs_of] at htf
                have HTF := Lib.hid htf
                obtain ⟨g0, cap0, hgv, hgb, hgl⟩ := Arg.own_form hown6 (by omega)
                have hav : au = some ⟨g0, 0, none⟩ := by injection hgv
                subst hav
                have hc2 := hown6.cellAt m (by omega)
                rw [List.getElem?_map, List.getElem?_eq_getElem hm] at hc2
                generalize hp : ps[m] = p at *
                have hcell : wr.cell? ⟨g0, m, none⟩ = some (.string p) := hc2
                cases gk with
                | zero => exact absurd hmg (by omega)
                | succ g =>
                  have HG := Lib.hid hmg
                  have HC1 := Lib.hid hc1
                  have H6 := Lib.hid hown6
                  have H7 := Lib.hid hbel6
                  clear htf k1 hc2 hp hmg hc1 hown6 hbel6 hcm hsz6
                  go_wp2_with fail
                  refine (HTF.out _).mono ?_
                  rintro e w5 ⟨rfl, hb5⟩
                  have hcell5 := (hb5.cell (p := ⟨g0, m, none⟩) hgl).trans hcell
                  have H8 := Lib.hid (Arg.own_below H6.out hb5)
                  have H9 := Lib.hid (H7.out.trans (hb5.mono H7.out.size))
                  clear hb5 hcell
                  go_wp2
                  go_roundg g
                  case measure => omega
                  case rel => exact ⟨m + 1, by have := HG.out; omega, by go_num, rfl, HC1.out, H8.out, H9.out⟩
              · have h3 : PM.tfW (lef ps cc m) = 3 ∧ k ≤ m := by
                  rcases Nat.lt_or_ge m ps.length with hm | hm
                  · have hc2 : cc < (cat (ps.take (m + 1))).length := by
                      rcases Nat.lt_or_ge cc (cat (ps.take (m + 1))).length with h | h
                      · exact h
                      · exact absurd ⟨hm, h⟩ hin
                    exact ⟨step_short ps cc m hm (HP.out ps[m] (List.getElem_mem hm)) hc2, sure_le ps cc m k HCC.out.1 hc2⟩
                  · have e9 : m = ps.length := by omega
                    rw [e9, lef_end]
                    exact ⟨nil_tfW, HKQ.out⟩
                have hkm : (k : Int) ≤ (m : Int) := by have := h3.2; omega
                rw [h3.1] at htf
                have HTF := Lib.hid htf
                have H7 := Lib.hid hbel6
                clear htf h3 hmg hcm hown6 hbel6 hsz6 hin
                go_wp2_with fail
                refine (HTF.out _).mono ?_
                rintro e w5 ⟨rfl, hb5⟩
                have H9 := Lib.hid (H7.out.trans (hb5.mono H7.out.size))
                clear hb5
                go_wp2
                go_ret
                exact ⟨by rfl, H9.out⟩
        · have e1 : PackFrame.frS p = PM.bs (PM.frm p.data.toList) := by unfold PackFrame.frS; rw [if_neg hbig]
          have e2 : PackFrame.frW p = 0 := by unfold PackFrame.frW; rw [if_neg hbig]
          rw [e1, e2] at hfr
          have HFR := Lib.hid hfr
          have hcl := fr_cat_len ps HP.out (by omega)
          have HF := Lib.hid (fsOf_fine (ps ++ [p]) k (by
            have hz : p.data.toList.length = p.size := rfl
            rw [cat_snoc, List.length_append, PM.frm_length]; omega))
          have HBIG := Lib.hid hbig
          have HJ := Lib.hid hjg
          have hkp : k ≤ ps.length := by omega
          have HA := Lib.hid (fun (v : Value) (x : World) (hv : Files x x.heap.size v (fsOf ps k)) => add_any v ps k p hkp hbig (by omega) x hv)
          have hcl2 : (cat (ps ++ [p])).length ≤ 1099511627776 := by
            have hz : p.data.toList.length = p.size := rfl
            rw [cat_snoc, List.length_append, PM.frm_length]; omega
          have HY := Lib.hid (fun (v : Value) (x : World) (hv : Files x x.heap.size v (fsOf (ps ++ [p]) k)) => sync_any v (ps ++ [p]) k (by simp) hcl2 x hv)
          have HF2 := Lib.hid (fsOf_fine (ps ++ [p]) (ps ++ [p]).length hcl2)
          have HL2 := Lib.hid (fsOf_len (ps ++ [p]) (ps ++ [p]).length)
          have e9 : (ps ++ [p]).length = ps.length + 1 := by simp
          have em : (ps ++ [p]).map encS = ps.map encS ++ [encS p] := by simp
          rw [e9] at HY HF2 HL2
          have HPL := Lib.hid hpl
          have HE9 := Lib.hid e9
          have HEM := Lib.hid em
          have hpj : ps.length ≤ j := by omega
          have hpj2 : j ≤ ps.length := by omega
          have HHP : Hid (∀ q ∈ ps ++ [p], ¬ 65536 < q.size) := by
            intro q hq
            rcases List.mem_append.1 hq with h | h
            · exact HP.out q h
            · obtain rfl := List.mem_singleton.1 h; exact HBIG.out
          have hn1 : ps.length + 1 ≤ maxLen := by unfold maxLen; omega
          have hn2 : (ps.length + 1) * 16 ≤ 140737488355328 := by omega
          clear hfr hpz hjg e1 e2 hbig hpl e9 em hcl hcl2
          cases gk with
          | zero => exact absurd HJ.out (by omega)
          | succ g =>
            go_wp2_with fail
            refine (HFR.out _).mono ?_
            rintro e w2 ⟨rfl, hb2⟩
            have HQ := Lib.hid (HST.out.keep hb2)
            have HO := Lib.hid (Arg.own_below hown hb2)
            obtain ⟨d0, d1, d2, d3, d4, d5⟩ := HQ.out.dx
            have hlt := HQ.out.hi
            clear hb2 hown
            go_wp2_with fail
            refine (HA.out _ _ HQ.out.files).mono ?_
            intro e w3 hd
            have hown3 := Arg.own_below HO.out hd.below
            obtain ⟨v3, rfl, ho3, hb3⟩ := hd
            obtain ⟨a3, c3, rfl⟩ := ho3.slice
            have hs := HQ.out.keep hb3
            obtain ⟨d0, d1, d2, d3, d4, d5⟩ := hs.dx
            have hlt3 := hs.hi
            have HO4 := Lib.hid (st3_own hown3 (.slice a3 (fsOf (ps ++ [p]) k).length c3) false (-1))
            have HROW : Hid (∀ (o : Obj) (y : World), ((st3 w3 w1.heap.size (.slice a3 (fsOf (ps ++ [p]) k).length c3) false (-1)).alloc o).grownBy y (Value.slice au ps.length cu).ownBlock → St w w1.heap.size y (.slice a3 (fsOf (ps ++ [p]) k).length c3) false (-1) (fsOf (ps ++ [p]) k)) :=
              fun o y hg => HQ.out.row ho3 hb3 HF.out (fsOf_len _ _) HO.out hg
            have HLIT : Hid (((st3 w3 w1.heap.size (.slice a3 (fsOf (ps ++ [p]) k).length c3) false (-1)).alloc (.cells #[.string p] 9)).ownsRow w1.heap.size 9 1 (.slice (some ⟨w3.heap.size, 0, none⟩) 1 1) 1 [encS p]) := by
              have hz : (st3 w3 w1.heap.size (.slice a3 (fsOf (ps ++ [p]) k).length c3) false (-1)).heap.size = w3.heap.size := by simp [st3]
              have := Mem.own_lit (st3 w3 w1.heap.size (.slice a3 (fsOf (ps ++ [p]) k).length c3) false (-1)) w1.heap.size 9 (.string p) (by rw [hz]; omega)
              rw [hz] at this
              exact this
            unfold st3 at HO4 HROW HLIT
            clear hs hb3 ho3 hown3
            by_cases hy : j < ys.length
            · obtain ⟨b2, off2, rfl, hlt2, hyc⟩ := HY3.out (by omega)
              have HYC := Lib.hid (hyc j hy)
              have ty1 : (j : Int) < (ys.length : Int) := by omega
              have ty2 : (0 : Int) ≤ (j : Int) := by omega
              clear hyc
              generalize ys[j] = yb at *
              cases yb
              · go_wp2_with (at_builtin; go_loud (refine Mem.wpList_append_row rfl (.tmp 47) (.tmp 49) _ rfl (w1.heap.size + 1) 9 i0 _ 16 Try.underlying22 hi hq0 hq1 hq2 rfl (.slice au ps.length cu) ps.length _ rfl (HO4.out.alloc _) w1.heap.size (.slice (some ⟨w3.heap.size, 0, none⟩) 1 1) 1 [encS p] rfl HLIT.out (encS_one [p]) hn1 hn2 (by simp; omega) ?_; intro v4 w4 hown4 hg4; have HSY := Lib.hid (HROW.out _ _ hg4); obtain ⟨a4, c4, rfl⟩ := Arg.len_own hown4; obtain ⟨d0, d1, d2, d3, d4, d5⟩ := HSY.out.dx; have hlt4 := HSY.out.hi; have HO5 := Lib.hid hown4; have hcy := (HSY.out.below.cell (by exact hlt2)).trans HYC.out; clear hown4 hg4))
                go_roundg g
                case measure => omega
                case rel => exact ⟨j + 1, k, ps ++ [p], a3, c3, by have := HJ.out; omega, by go_num, rfl, by have := HE9.out; omega, by omega, by omega, HHP.out, by rw [HE9.out, HEM.out]; exact HO5.out, HSY.out⟩
              · go_wp2_with (at_builtin; go_loud (refine Mem.wpList_append_row rfl (.tmp 47) (.tmp 49) _ rfl (w1.heap.size + 1) 9 i0 _ 16 Try.underlying22 hi hq0 hq1 hq2 rfl (.slice au ps.length cu) ps.length _ rfl (HO4.out.alloc _) w1.heap.size (.slice (some ⟨w3.heap.size, 0, none⟩) 1 1) 1 [encS p] rfl HLIT.out (encS_one [p]) hn1 hn2 (by simp; omega) ?_; intro v4 w4 hown4 hg4; have HSY := Lib.hid (HROW.out _ _ hg4); obtain ⟨a4, c4, rfl⟩ := Arg.len_own hown4; obtain ⟨d0, d1, d2, d3, d4, d5⟩ := HSY.out.dx; have hlt4 := HSY.out.hi; have HO5 := Lib.hid hown4; have hcy := (HSY.out.below.cell (by exact hlt2)).trans HYC.out; clear hown4 hg4))
                refine (HY.out _ _ HSY.out.files).mono ?_
                intro e w5 hd
                have hown5 := Arg.own_below HO5.out hd.below
                obtain ⟨v5, rfl, ⟨a5, c5, rfl⟩, hs, hS, _⟩ := HSY.out.step hd HF2.out HL2.out
                obtain ⟨d0, d1, d2, d3, d4, d5⟩ := hs.dx
                have HO6 := Lib.hid (st3_own hown5 (.slice a5 (fsOf (ps ++ [p]) (ps.length + 1)).length c5) false (-1))
                have HS5 := Lib.hid hS
                unfold st3 at HS5 HO6
                clear hS hs hd hown5
                go_wp2
                go_roundg g
                case measure => omega
                case rel => exact ⟨j + 1, ps.length + 1, ps ++ [p], a5, c5, by have := HJ.out; omega, by go_num, by go_num, by have := HE9.out; omega, by omega, by omega, HHP.out, by rw [HE9.out, HEM.out]; exact HO6.out, HS5.out⟩
            · have ty1 : ¬ ((j : Int) < (ys.length : Int)) := by omega
              have ty2 : decide ((j : Int) < (ys.length : Int)) = false := by simpa using hy
              go_wp2_with (at_builtin; go_loud (refine Mem.wpList_append_row rfl (.tmp 47) (.tmp 49) _ rfl (w1.heap.size + 1) 9 i0 _ 16 Try.underlying22 hi hq0 hq1 hq2 rfl (.slice au ps.length cu) ps.length _ rfl (HO4.out.alloc _) w1.heap.size (.slice (some ⟨w3.heap.size, 0, none⟩) 1 1) 1 [encS p] rfl HLIT.out (encS_one [p]) hn1 hn2 (by simp; omega) ?_; intro v4 w4 hown4 hg4; have HSY := Lib.hid (HROW.out _ _ hg4); obtain ⟨a4, c4, rfl⟩ := Arg.len_own hown4; obtain ⟨d0, d1, d2, d3, d4, d5⟩ := HSY.out.dx; have hlt4 := HSY.out.hi; have HO5 := Lib.hid hown4; clear hown4 hg4))
              go_roundg g
              case measure => omega
              case rel => exact ⟨j + 1, k, ps ++ [p], a3, c3, by have := HJ.out; omega, by go_num, rfl, by have := HE9.out; omega, by omega, by omega, HHP.out, by rw [HE9.out, HEM.out]; exact HO5.out, HSY.out⟩
    · have hlk : ¬ ((j : Int) < (ss.length : Int)) := by omega
      clear hjg
      have HQ := HST
      have hownQ := hown
      have hkq : k ≤ ps.length := by omega
      have hp40 : ps.length ≤ 40 := by omega
      clear hpl hkj hj40
      by_cases hps : ps = []
      · subst hps
        have HQ2 := HQ.out
        rw [fsOf_nil] at HQ2
        have HC := Lib.hid (crash_nil _ _ ks _ HQ2.files (HK.out _ HQ2.below))
        have HQ3 := Lib.hid HQ2
        clear HQ2 hown hownQ
        go_wp2_with fail
        refine HC.out.mono ?_
        intro e w3 hd
        obtain ⟨v3, rfl, ⟨a3, c3, rfl⟩, hs, hS, _⟩ := HQ3.out.step hd (by intro f hf; simp at hf) (by simp)
        obtain ⟨d0, d1, d2, d3, d4, d5⟩ := hs.dx
        have HS3 := Lib.hid hS
        unfold st3 at HS3
        clear hS hs hd
        go_wp2_with fail
        refine (read_nothing _ _ HS3.out.files).mono ?_
        rintro e w4 ⟨rfl, hb4⟩
        have HB5 := Lib.hid (HS3.out.keep hb4).below
        clear hb4
        go_wp2
        go_ret
        exact ⟨by rfl, HB5.out⟩
      · have hcl := fr_cat_len ps HP.out hp40
        have hfq := fsOf_some ps k hps
        have hkl := HK.out _ HQ.out.below
        have HC := Lib.hid (crash_some _ _ ps k ks hps _ HQ.out.files hkl)
        have HF := Lib.hid (left_fine' ps k ks hcl)
        have HOQ := Lib.hid hownQ
        clear hown hownQ hkl hcl hfq
        go_wp2_with fail
        refine HC.out.mono ?_
        intro e w3 hd
        have hown3 := Arg.own_below HOQ.out hd.below
        obtain ⟨v3, rfl, ⟨a3, c3, rfl⟩, hs, hS, _⟩ := HQ.out.step hd HF.out (by simp)
        obtain ⟨d0, d1, d2, d3, d4, d5⟩ := hs.dx
        have hown4 := st3_own hown3 (.slice a3 1 c3) false (-1)
        have HO4 := Lib.hid hown4
        have HS3 := Lib.hid hS
        unfold st3 at HS3 HO4
        clear hS hs hd hown3 hown4
        generalize hcc : crC ps k ks = cc at *
        have HCC := Lib.hid (crC_within ps k ks)
        rw [hcc] at HCC
        have hle : cc ≤ ((cat ps).take cc).length := by rw [List.length_take]; have := HCC.out.2; omega
        have HR := Lib.hid (read_left _ _ cc hle _ HS3.out.files)
        have hpl0 : ¬ ((ps.length : Int) = 0) := by
          have : ps.length ≠ 0 := fun h0 => hps (List.length_eq_zero_iff.1 h0)
          omega
        have hpl1 : ((ps.length : Int) == 0) = false := by simpa using hpl0
        clear hle
        go_wp2_with fail
        refine HR.out.mono ?_
        rintro e w4 ⟨rfl, hb4⟩
        have HO5 := Lib.hid (Arg.own_below HO4.out hb4)
        have HB5 := Lib.hid (HS3.out.keep hb4).below
        clear hb4
        rw [← lef_zero] 
        have HKQ := Lib.hid hkq
        have HCL := Lib.hid (fr_cat_len ps HP.out hp40)
        go_wp2
        try rw [hpl1]
        go_loopg [14, 16] ps.length (fun g l n wx => ∃ m : Nat, m + g = ps.length ∧ n = .int .i64 m ∧ l = .string (PM.bs (lef ps cc m)) ∧ (cat (ps.take m)).length ≤ cc ∧ wx.ownsRow (w1.heap.size + 1) 9 1 (.slice au ps.length cu) ps.length (ps.map encS) ∧ Below w.heap.size w wx)
        case atStart => exact ⟨0, by omega, rfl, rfl, by simp [cat], HO5.out, HB5.out⟩
        case round =>
          obtain ⟨m, hmg, rfl, rfl, hcm, hown6, hbel6⟩ := hrel
          have hml : (m : Int) ≤ (ps.length : Int) := by omega
          have hsz6 : (PM.bs (lef ps cc m)).size ≤ maxLen := by
            have h1 := lef_len ps cc m
            have h2 := HCL.out
            rw [PM.bs_size]; unfold maxLen; omega
          have htf := fun w => PackTakeFr.takeFrame_own (PM.bs (lef ps cc m)) w hsz6
          unfold PackTakeFr.TookF at htf
          rw [PM.bs_data] at htf
          by_cases hin : m < ps.length ∧ (cat (ps.take (m + 1))).length ≤ cc
          · obtain ⟨hm, hc1⟩ := hin
            have hne : ¬ ((m : Int) = (ps.length : Int)) := by omega
            have k1 := step_whole ps cc m hm (HP.out ps[m] (List.getElem_mem hm)) hc1
            rw [k1.1, k1.2.1, k1.2.2, PM.bs_of] at htf
            have HTF := Lib.hid htf
            obtain ⟨g0, cap0, hgv, hgb, hgl⟩ := Arg.own_form hown6 (by omega)
            have hav : au = some ⟨g0, 0, none⟩ := by injection hgv
            subst hav
            have hc2 := hown6.cellAt m (by omega)
            rw [List.getElem?_map, List.getElem?_eq_getElem hm] at hc2
            generalize hp : ps[m] = p at *
            have hcell : wr.cell? ⟨g0, m, none⟩ = some (.string p) := hc2
            cases gk with
            | zero => exact absurd hmg (by omega)
            | succ g =>
              have HG := Lib.hid hmg
              have HC1 := Lib.hid hc1
              have H6 := Lib.hid hown6
              have H7 := Lib.hid hbel6
              clear htf k1 hc2 hp hmg hc1 hown6 hbel6 hcm hsz6
              go_wp2_with fail
              refine (HTF.out _).mono ?_
              rintro e w5 ⟨rfl, hb5⟩
              have hcell5 := (hb5.cell (p := ⟨g0, m, none⟩) hgl).trans hcell
              have H8 := Lib.hid (Arg.own_below H6.out hb5)
              have H9 := Lib.hid (H7.out.trans (hb5.mono H7.out.size))
              clear hb5 hcell
              go_wp2
              go_roundg g
              case measure => omega
              case rel => exact ⟨m + 1, by have := HG.out; omega, by go_num, rfl, HC1.out, H8.out, H9.out⟩
          · have h3 : PM.tfW (lef ps cc m) = 3 ∧ k ≤ m := by
              rcases Nat.lt_or_ge m ps.length with hm | hm
              · have hc2 : cc < (cat (ps.take (m + 1))).length := by
                  rcases Nat.lt_or_ge cc (cat (ps.take (m + 1))).length with h | h
                  · exact h
                  · exact absurd ⟨hm, h⟩ hin
                exact ⟨step_short ps cc m hm (HP.out ps[m] (List.getElem_mem hm)) hc2, sure_le ps cc m k HCC.out.1 hc2⟩
              · have e9 : m = ps.length := by omega
                rw [e9, lef_end]
                exact ⟨nil_tfW, HKQ.out⟩
            have hkm : (k : Int) ≤ (m : Int) := by have := h3.2; omega
            rw [h3.1] at htf
            have HTF := Lib.hid htf
            have H7 := Lib.hid hbel6
            clear htf h3 hmg hcm hown6 hbel6 hsz6 hin
            go_wp2_with fail
            refine (HTF.out _).mono ?_
            rintro e w5 ⟨rfl, hb5⟩
            have H9 := Lib.hid (H7.out.trans (hb5.mono H7.out.size))
            clear hb5
            go_wp2
            go_ret
            exact ⟨by rfl, H9.out⟩
end Dk
end Go.Proofs.Ytnhkpbdggjmgdaa
