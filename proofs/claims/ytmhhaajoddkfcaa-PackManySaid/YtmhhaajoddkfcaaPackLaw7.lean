/-
  WALK of the law on frames one behind the other.
-/
import Derived.Test.YtmhhaajoddkfcaaPackLaw2
import Derived.Test.YtmhhaajoddkfcaaArg
import Derived.Test.YtmhhaajoddkfcaaMem
namespace Go.Proofs.Ytmhhaajoddkfcaa
open Go.RowKit
namespace PackLaw7
open PM PackBytes PackTakeNum PackTakeRef PackRefNum PackText PackChk PackFrame PackTakeFr PackTakeFrRef PackLaw2 Arg

/-- Frames one behind the other. -/
def cat : List ByteArray → List UInt8
  | [] => []
  | p :: ps => frm p.data.toList ++ cat ps
theorem cat_snoc (ps : List ByteArray) (p : ByteArray) : cat (ps ++ [p]) = cat ps ++ frm p.data.toList := by
  induction ps with
  | nil => simp [cat]
  | cons q ps ih => simp [cat, ih]
theorem cat_length (ps : List ByteArray) : 6 * ps.length ≤ (cat ps).length := by
  induction ps with
  | nil => simp [cat]
  | cons q ps ih => simp only [cat, List.length_append, frm_length, List.length_cons]; omega
theorem cat_drop (ps : List ByteArray) (j : Nat) (h : j < ps.length) : cat (ps.drop j) = frm ps[j].data.toList ++ cat (ps.drop (j + 1)) := by
  rw [← List.getElem_cons_drop h]; rfl
theorem cat_le (ps : List ByteArray) : ∀ k, (cat (ps.drop k)).length ≤ (cat ps).length := by
  induction ps with
  | nil => intro k; simp
  | cons p ps ih =>
    intro k
    cases k with
    | zero => simp
    | succ k =>
      have := ih k
      rw [List.drop_succ_cons]
      simp only [cat, List.length_append]; omega
def encS (s : ByteArray) : Value := .string s
theorem encS_one (l : List ByteArray) : ∀ u ∈ l.map encS, u.oneCell' = true := by
  intro u hu
  obtain ⟨b, _, rfl⟩ := List.mem_map.1 hu
  rfl
theorem info_str : (Try.prog.info? 9).map (fun i => (i.zero, i.size, i.bytes)) = some (some (.string ByteArray.empty), 1, 16) := by kernel_rfl

set_option maxRecDepth 100000 in
set_option maxHeartbeats 2000000 in
theorem packMany (v : Value) (ss : List ByteArray) (w : World) (hv : IsStrs w w.heap.size v ss) :
    Calls Try.prog 12 #[v] w fun e w' => e = .returned (.bool true) ∧ Below w.heap.size w w' := by
  obtain ⟨i0, hi, hz0, hz1, hz2⟩ := info_parts info_str
  obtain ⟨a, c, rfl, hs1, hs2, hs3⟩ := hv
  have HS1 := Lib.hid hs1
  have HS3 := Lib.hid hs3
  unfold maxLen at hs2
  clear hs1 hs3
  go_enter Try.func12, Try.ntmps12
  go_wp2_with fail
  refine (frames_true _).mono ?_
  rintro e w1 ⟨rfl, hb1⟩
  have HB1 := Lib.hid hb1
  clear hb1
  go_wp2
  go_loopg [3, 4, 18] ss.length (fun g s0 u i wx => ∃ (j : Nat) (ps : List ByteArray), j + g = ss.length ∧ i = .int .i64 j ∧ s0 = .string (bs (cat ps)) ∧ (cat ps).length ≤ 1065600 ∧ Aside (∀ p ∈ ps, ¬ 65536 < p.size) ∧
    wx.ownsRow w.heap.size 9 1 u ps.length (ps.map encS) ∧ Below w.heap.size w wx)
  case atStart => exact ⟨0, [], by omega, rfl, rfl, by simp [cat], (fun p hp => by cases hp), World.ownsRow_nil _ _ _ _, HB1.out⟩
  case round =>
    obtain ⟨j, ps, hjg, rfl, rfl, hcl, HP, hown, hbel⟩ := hrel
    have hpl := cat_length ps
    have hbs := bs_size (cat ps)
    cases gk with
    | zero =>
      have hlk : ¬ ((j : Int) < (ss.length : Int)) := by omega
      clear hjg
      obtain ⟨au, cu, rfl⟩ := Arg.len_own hown
      go_wp2
      go_loopg [3, 44] ps.length (fun g s0 i wx => ∃ k : Nat, k + g = ps.length ∧ i = .int .i64 k ∧ s0 = .string (bs (cat (ps.drop k))) ∧ wx.ownsRow w.heap.size 9 1 (.slice au ps.length cu) ps.length (ps.map encS) ∧ Below w.heap.size w wx)
      case atStart => exact ⟨0, by omega, rfl, rfl, hown, hbel⟩
      case round =>
        obtain ⟨k, hkg, rfl, rfl, hown2, hbel2⟩ := hrel
        cases gk with
        | zero =>
          have hlk2 : ¬ ((k : Int) < (ps.length : Int)) := by omega
          have e : cat (ps.drop k) = [] := by rw [List.drop_eq_nil_of_le (by omega)]; rfl
          have t3 : (bs (cat (ps.drop k))).toList.isEmpty = true := by rw [e, bs_toList]; rfl
          have H2 := Lib.hid hbel2
          clear hkg e hbel2 hbel
          go_wp2
          go_ret
          exact ⟨rfl, H2.out⟩
        | succ g =>
          have hlk2 : k < ps.length := by omega
          have HG := Lib.hid hkg
          clear hkg
          obtain ⟨g0, cap0, hgv, hgb, hgl⟩ := Arg.own_form hown2 (by omega)
          have hav : au = some ⟨g0, 0, none⟩ := by injection hgv
          subst hav
          have hc2 := hown2.cellAt k (by omega)
          rw [List.getElem?_map, List.getElem?_eq_getElem hlk2] at hc2
          have HP2 := HP.out ps[k] (List.getElem_mem hlk2)
          have hcd := cat_drop ps k hlk2
          have k1 := tf_back ps[k].data.toList (cat (ps.drop (k + 1))) HP2
          have hsz3 : (bs (cat (ps.drop k))).size ≤ maxLen := by
            have e1 : (cat (ps.drop k)).length ≤ (cat ps).length := cat_le ps k
            rw [bs_size]; unfold maxLen; omega
          have htf := fun w => takeFrame_own (bs (cat (ps.drop k))) w hsz3
          unfold TookF at htf
          rw [bs_data, hcd, k1.1, k1.2.1, k1.2.2, bs_of] at htf
          rw [hcd] 
          have HTF := Lib.hid htf
          clear htf hcd k1 HP2 hsz3
          generalize hp : ps[k] = p at *
          have hcell : wr.cell? ⟨g0, k, none⟩ = some (.string p) := hc2
          have H2 := Lib.hid hbel2
          have H3 := Lib.hid hown2
          clear hc2 hp hbel2 hown2
          go_wp2_with fail
          refine (HTF.out _).mono ?_
          rintro e w3 ⟨rfl, hb3⟩
          have H4 := Lib.hid (own_below H3.out hb3)
          have H5 := Lib.hid (H2.out.trans (hb3.mono H2.out.size))
          clear hb3
          go_wp2
          go_roundg g
          case measure => omega
          case rel => exact ⟨k + 1, by have := HG.out; omega, by go_num, rfl, H4.out, H5.out⟩
    | succ g =>
      have hlk : j < ss.length := by omega
      have HG := Lib.hid hjg
      clear hjg
      obtain ⟨au, cu, rfl⟩ := Arg.len_own hown
      obtain ⟨b, off, rfl, hblt, hc⟩ := HS3.out (by omega)
      have hcell : wr.cell? ⟨b, off + j, none⟩ = some (.string ss[j]) := (hbel.cell hblt).trans (hc j hlk)
      have hpz := HS1.out ss[j] (List.getElem_mem hlk)
      have HC := Lib.hid hc
      have HPZ := Lib.hid hpz
      clear hc hpz
      generalize ss[j] = p at *
      have hfr := fun w => frame_own p w HPZ.out
      unfold Framed at hfr
      by_cases hbig : 65536 < p.size
      · have e2 : frW p = 2 := by unfold frW; rw [if_pos hbig]
        rw [e2] at hfr
        have HFR := Lib.hid hfr
        clear hfr e2 hbig
        go_wp2_with fail
        refine (HFR.out _).mono ?_
        rintro e w2 ⟨rfl, hb2⟩
        have hown2 := own_below hown hb2
        have hbel2 := hbel.trans (hb2.mono hbel.size)
        clear hb2
        go_wp2
        go_roundg g
        case measure => omega
        case rel => exact ⟨j + 1, ps, by have := HG.out; omega, by go_num, rfl, hcl, HP.out, hown2, hbel2⟩
      · have e1 : frS p = bs (frm p.data.toList) := by unfold frS; rw [if_neg hbig]
        have e2 : frW p = 0 := by unfold frW; rw [if_neg hbig]
        rw [e1, e2] at hfr
        have HFR := Lib.hid hfr
        have hfs := bs_size (frm p.data.toList)
        have hfl := frm_length p.data.toList
        have hsl := size_length p
        have hps : p.size ≤ 65536 := by omega
        have HBig := Lib.hid hbig
        clear hfr e1 e2 hbig
        by_cases hroom : (cat ps).length < 1000000
        · have t1 : ((cat ps).length : Int) < 1000000 := by omega
          have hn1 : ps.length + 1 ≤ maxLen := by unfold maxLen; omega
          have hn2 : (ps.length + 1) * 16 ≤ 140737488355328 := by omega
          have hbs1 : bs (cat ps) ++ bs (frm p.data.toList) = bs (cat (ps ++ [p])) := by rw [bs_append, cat_snoc]
          have HB1 := Lib.hid hbs1
          clear hbs1
          go_wp2_with fail
          refine (HFR.out _).mono ?_
          rintro e w2 ⟨rfl, hb2⟩
          have hown2 := own_below hown hb2
          have hbel2 := hbel.trans (hb2.mono hbel.size)
          have hsz2 := hbel2.size
          clear hb2 hown hbel
          go_wp2_with (at_builtin; refine Mem.wpList_append_row rfl (.tmp 37) (.tmp 39) _ rfl w.heap.size 9 i0 _ 16 Try.underlying39 hi hz0 hz1 hz2 rfl (.slice au ps.length cu) ps.length _ rfl (hown2.alloc _) w.heap.size (.slice (some ⟨w2.heap.size, 0, none⟩) 1 1) 1 [encS p] rfl (Mem.own_lit w2 _ 9 _ hbel2.size) (encS_one [p]) hn1 hn2 (Nat.le_trans hbel2.size (by simp)) ?_; intro v1 w3 hown3 hg3)
          have hb3 := (hbel2.alloc hbel2.size (.cells #[.string p] 9)).grown hg3 (by simp; omega) (fun k hk => (hown2.lt k hk).1)
          go_roundg g
          case measure => omega
          case rel =>
            refine ⟨j + 1, ps ++ [p], by have := HG.out; omega, by go_num, by rw [← HB1.out], ?_, ?_, ?_, hb3⟩
            · rw [cat_snoc, List.length_append]; omega
            · show ∀ q ∈ ps ++ [p], _
              intro q hq
              rcases List.mem_append.1 hq with h | h
              · exact HP.out q h
              · rw [List.mem_singleton.1 h]; exact HBig.out
            · rw [List.length_append, List.map_append]
              exact hown3
        · have t1 : decide (((cat ps).length : Int) < 1000000) = false := by simp; omega
          go_wp2_with fail
          refine (HFR.out _).mono ?_
          rintro e w2 ⟨rfl, hb2⟩
          have hown2 := own_below hown hb2
          have hbel2 := hbel.trans (hb2.mono hbel.size)
          clear hb2
          go_wp2
          go_roundg g
          case measure => omega
          case rel => exact ⟨j + 1, ps, by have := HG.out; omega, by go_num, rfl, hcl, HP.out, hown2, hbel2⟩

theorem packManyArg {H : Type} {enc : TypeId × Value → H} {d : DataW H} {qs : List MemPlace} {base : Nat} (v : Value) (w : World)
    (ho : Value.okWide Try.prog w .any base 39 v) (hk : DataW.Trod enc Try.prog w 0 (fun _ => true) true 39 v d qs) :
    Calls Try.prog 12 #[v] w fun e w' => e = .returned (.bool true) ∧ Below w.heap.size w w' := by
  obtain ⟨ss, h⟩ := strs_of Try.underlying39 Try.underlying9 (by kernel_rfl) ho hk
  exact packMany v ss w h
end PackLaw7
end Go.Proofs.Ytmhhaajoddkfcaa
