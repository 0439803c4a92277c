/-
  WHO THE MEMBERS ARE: log.Members, gafferref14.Members.
-/
import Derived.Test.YthcjnnbnacdhoaaLogRf3
import Derived.Test.YthcjnnbnacdhoaaLogOwn
namespace Go.Proofs.Ythcjnnbnacdhoaa
open Go.RowKit Go.Lib
namespace Lo
set_option linter.unusedVariables false
def mbL : List Int → List En → List Int
  | cur, [] => cur
  | cur, e :: r => mbL (if e.k = 3 then e.ks else cur) r
def mbX (x : Nat) : List Int → List En → List Int
  | cur, [] => cur
  | cur, e :: r => mbX x (if e.k = 3 then (if e.i ≤ x then e.ks else cur) else cur) r
theorem mbL_at (l : List En) (k : Nat) (h : k < l.length) (cur : List Int) : mbL cur (l.drop k) = mbL (if l[k].k = 3 then l[k].ks else cur) (l.drop (k + 1)) := by
  rw [List.drop_eq_getElem_cons h, mbL]
theorem mbX_at (x : Nat) (l : List En) (k : Nat) (h : k < l.length) (cur : List Int) : mbX x cur (l.drop k) = mbX x (if l[k].k = 3 then (if l[k].i ≤ x then l[k].ks else cur) else cur) (l.drop (k + 1)) := by
  rw [List.drop_eq_getElem_cons h, mbX]
theorem mb_is (x : Nat) : ∀ (l : List En) (X : Nat) (cur : List Int), (∀ i (h : i < l.length), l[i].i = X + i + 1) → mbX x cur l = mbL cur (l.take (x - X))
  | [], X, cur, _ => by rw [List.take_nil]; rfl
  | e :: r, X, cur, h => by
    have h0 : e.i = X + 1 := h 0 (by simp)
    have hr : ∀ i (hi : i < r.length), r[i].i = X + 1 + i + 1 := fun i hi => by
      have := h (i + 1) (by simpa using hi)
      rw [List.getElem_cons_succ] at this
      omega
    unfold mbX
    rw [mb_is x r (X + 1) _ hr]
    by_cases h1 : X + 1 ≤ x
    · obtain ⟨d, hd⟩ : ∃ d, x - X = d + 1 := ⟨x - X - 1, by omega⟩
      rw [hd, List.take_succ_cons, if_pos (show e.i ≤ x by omega), show x - (X + 1) = d by omega]
      rfl
    · rw [show x - (X + 1) = 0 by omega, show x - X = 0 by omega, if_neg (show ¬ e.i ≤ x by omega), List.take_zero, List.take_zero]
      simp [mbL]
theorem mb_eq {b t : Nat} {l : List En} (x : Nat) (cur : List Int) (hb : Lt64 b) (hk : okB b t l = true) : mbX x cur l = mbL cur (l.take (mny b l.length x)) := by
  obtain ⟨-, r2⟩ := row_is l b (ok_is hk).2.1 hb
  rw [mb_is x l b cur (fun i h => (r2 i h).1)]
  unfold mny
  split
  · rw [show x - b = 0 by omega]
  · by_cases h : x - b ≤ l.length
    · rw [Nat.min_eq_left h]
    · rw [Nat.min_eq_right (by omega), List.take_of_length_le (by omega), List.take_of_length_le (Nat.le_refl _)]
/-- Who the members are, up to an Index; none, if the log is not right. -/
def mbO (b t : Nat) (l : List En) (x : Nat) (cur : List Int) : List Int := if okB b t l = true then mbL cur (l.take (mny b l.length x)) else []
def MbIs (b t : Nat) (l : List En) (x : Nat) (cur : List Int) (e : Ending) (w' : World) : Prop :=
  ∃ a c, e = .returned (.tuple #[.slice a (mbO b t l x cur).length c, .int .i64 (lgE (okB b t l))]) ∧ IntsR w' 0 w'.heap.size (.slice a (mbO b t l x cur).length c) (mbO b t l x cur)
theorem MbIs.bad {b t : Nat} {l : List En} {x : Nat} {cur : List Int} (h : okB b t l = false) (w' : World) : MbIs b t l x cur (.returned (.tuple #[.slice none 0 0, .int .i64 10])) w' := by
  have e : mbO b t l x cur = [] := by unfold mbO; rw [h]; rfl
  unfold MbIs
  rw [e, h]
  exact ⟨none, 0, rfl, none, 0, rfl, by simp, by simp, by simp⟩
theorem MbIs.good {b t : Nat} {l : List En} {x : Nat} {cur ks : List Int} (h : okB b t l = true) (hk : mbL cur (l.take (mny b l.length x)) = ks) {w' : World} {A : Nat} {a : Option Addr} {c : Nat} (hI : IntsR w' A w'.heap.size (.slice a ks.length c) ks) : MbIs b t l x cur (.returned (.tuple #[.slice a ks.length c, .int .i64 0])) w' := by
  have e : mbO b t l x cur = ks := by unfold mbO; rw [if_pos h]; exact hk
  unfold MbIs
  rw [e, h]
  exact ⟨a, c, rfl, hI.more (Nat.le_refl _) (Nat.zero_le _)⟩
set_option maxHeartbeats 8000000 in
theorem members_any (b t x : Nat) (v : Value) (ks : List Int) (a : Option Addr) (c : Nat) (l : List En) (w : World) {A A2 : Nat} (h : Sl w A w.heap.size a c l) (hv : IntsR w A2 w.heap.size v ks) (hb : Lt64 b) (hx : Lt64 x) :
    Calls Try.prog 19 #[.agg #[.int .u64 (b : Nat), .int .u64 (t : Nat), .slice a l.length c], .int .u64 (x : Nat), v] w fun e w' => MbIs b t l x ks e w' ∧ Below w.heap.size w w' := by
  have hB : Below w.heap.size w (w.alloc (.cells #[.int .u64 (b : Nat), .int .u64 (t : Nat), .slice a l.length c] 25)) := (Below.refl _ _).alloc (Nat.le_refl _) _
  have HC := Lib.hid (log_check b t a c l _ (h.on hB))
  have HS := Lib.hid (h.on hB)
  have HSW := Lib.hid (h.more (Nat.le_refl _) (Nat.zero_le A))
  have HB := Lib.hid hB
  have HLN := Lib.hid h.len
  have HV := Lib.hid hv
  have C0 := Lib.hid (Bx3.made w (.int .u64 (b : Nat)) (.int .u64 (t : Nat)) (.slice a l.length c) 25)
  have HAH := Lib.hid (fun z (hz : Below _ _ z) => ahead_of b t x a c l z ((h.on hB).on hz) hx hb)
  clear hB h
  obtain ⟨va, vc, rfl⟩ := hv.slice
  clear hv
  cases hk : okB b t l
  · have HBAD := Lib.hid (fun w' => MbIs.bad (x := x) (cur := ks) hk w')
    rw [hk] at HC
    clear hk HS HAH
    go_enter Try.func19, Try.ntmps19
    go_wp2_with (go_at_call 22; go_loud ((with_reducible refine HC.out.mono ?_); rintro e w1 ⟨rfl, hb1⟩; have HB1 := Lib.hid (HB.out.trans (hb1.mono HB.out.size)); have HL1 := Lib.hid hb1; have C1 := Lib.hid (C0.out.below hb1); obtain ⟨d0, d1, d2⟩ := C1.out.cells; clear hb1))
    go_wp2
    go_ret2
    exact ⟨HBAD.out _, HB1.out⟩
  · rw [hk] at HC
    have HGOOD := Lib.hid (fun kz w' A a c hz hI => MbIs.good (w' := w') (A := A) (a := a) (c := c) (x := x) (cur := ks) (ks := kz) hk hz hI)
    have HV0 := Lib.hid (HV.out.more (Nat.le_refl _) (Nat.zero_le A2))
    obtain ⟨r, hr⟩ : ∃ r, l.take (mny b l.length x) = r := ⟨_, rfl⟩
    rw [hr] at HGOOD
    have hrl : r.length = mny b l.length x := by rw [← hr, List.length_take]; have := mny_le b l.length x; omega
    have HSR := Lib.hid (hr ▸ HSW.out.take (mny b l.length x))
    have HLR := Lib.hid HSR.out.len
    rw [← hrl] at HAH
    clear hk HS HSW hr hrl
    go_enter Try.func19, Try.ntmps19
    go_wp2_with (go_at_call 22; go_loud ((with_reducible refine HC.out.mono ?_); rintro e w1 ⟨rfl, hb1⟩; have HB1 := Lib.hid (HB.out.trans (hb1.mono HB.out.size)); have HL1 := Lib.hid hb1; have C1 := Lib.hid (C0.out.below hb1); obtain ⟨d0, d1, d2⟩ := C1.out.cells; clear hb1))
    go_wp2_with (go_at_call 39; go_loud ((with_reducible refine (HAH.out _ HL1.out).mono ?_); rintro e w2 ⟨rfl, hb2⟩; have HB2 := Lib.hid (HB1.out.trans (hb2.mono HB1.out.size)); clear hb2))
    go_wp2
    go_loopg [9, 22] r.length (fun gg lv i wx => ∃ (k : Nat) (lw : Value) (cur : List Int), k + gg = r.length ∧ lv = lw ∧ i = .int .i64 k ∧ Aside (IntsR w 0 w.heap.size lw cur) ∧ Aside (Below w.heap.size w wx) ∧ Aside (mbL ks r = mbL cur (r.drop k)))
    case atStart => exact ⟨0, _, ks, by omega, rfl, rfl, HV0.out, HB2.out, rfl⟩
    case round =>
      obtain ⟨k, lw, cur, hkg, rfl, rfl, HLV, HBW, HA⟩ := hrel
      cases gk with
      | zero =>
        obtain rfl : k = r.length := by omega
        have HE : Hid (mbL ks r = cur) := HA.out.trans (by rw [List.drop_length]; rfl)
        obtain ⟨la, lc, rfl⟩ := HLV.out.slice
        clear hkg HA
        have HCL := Lib.hid (clone_ints _ cur wr ((HLV.out.keep HBW.out).more HBW.out.size (Nat.le_refl _)))
        go_wp2_with (go_at_call 40; go_loud ((with_reducible refine HCL.out.mono ?_); rintro e w9 ⟨⟨a9, c9, rfl, hI, hT⟩, hb9⟩; have HI9 := Lib.hid hI; have HB9 := Lib.hid (HBW.out.trans (hb9.mono HBW.out.size)); clear hI hT hb9))
        go_wp2
        go_ret2
        exact ⟨HGOOD.out _ _ _ _ _ HE.out HI9.out, HB9.out⟩
      | succ gg =>
        have hlt : k < r.length := by omega
        have hlt2 : (k : Int) < (r.length : Int) := by omega
        have tk : IntKind.i64.wrap ((k : Int) + 1) = (k : Int) + 1 := by have := HLR.out; rw [IntKind.wrap_i64]; omega
        obtain ⟨blk, off, rfl, -, hbk, u, hcw⟩ := HSR.out.at k hlt
        obtain ⟨c0, c1, c2', c3', c4, -, i64, -⟩ := hcw.keep HBW.out hbk
        have iv := hcw.iv
        clear hcw
        have HK := Lib.hid hkg
        have HM := Lib.hid (mbL_at r k hlt cur)
        have HIV := Lib.hid (iv.more (Nat.le_refl _) (Nat.zero_le _))
        obtain ⟨ua, uc, rfl⟩ := iv.slice
        obtain ⟨la, lc, rfl⟩ := HLV.out.slice
        have HBN := Lib.hid (HBW.out.alloc HBW.out.size (.cells #[.int .u64 (r[k].i : Nat), .int .u64 (r[k].t : Nat), .int .u8 (r[k].k : Nat), .string r[k].d, .slice ua r[k].ks.length uc] 53))
        clear hkg iv i64
        generalize r[k] = e at *
        rcases e with ⟨ei, et, ek, ed, eks⟩
        simp only at c0 c1 c2' c3' c4 HM HIV HBN
        by_cases h3 : ek = 3
        · subst h3
          rw [show ((3 : Nat) : Int) = 3 from rfl] at *
          have HE : Hid (mbL ks r = mbL eks (r.drop (k + 1))) := HA.out.trans (by rw [HM.out]; rw [if_pos rfl])
          clear HM HA
          go_wp2
          go_roundg gg
          case measure => omega
          case rel => exact ⟨k + 1, _, eks, by have := HK.out; omega, rfl, by simp, HIV.out, HBN.out, HE.out⟩
        · have k1 : ¬ (ek : Int) = 3 := by omega
          have k2 : ((ek : Int) == 3) = false := by simp; omega
          have HE : Hid (mbL ks r = mbL cur (r.drop (k + 1))) := HA.out.trans (by rw [HM.out]; rw [if_neg h3])
          clear HM HA h3
          go_wp2
          go_roundg gg
          case measure => omega
          case rel => exact ⟨k + 1, _, cur, by have := HK.out; omega, rfl, by simp, HLV.out, HBN.out, HE.out⟩
set_option maxHeartbeats 8000000 in
theorem members_doc (b t x : Nat) (v : Value) (ks : List Int) (a : Option Addr) (c : Nat) (l : List En) (w : World) {A A2 : Nat} (h : Sl w A w.heap.size a c l) (hv : IntsR w A2 w.heap.size v ks) (hb : Lt64 b) (hx : Lt64 x) :
    Calls Try.prog 20 #[.agg #[.int .u64 (b : Nat), .int .u64 (t : Nat), .slice a l.length c], .int .u64 (x : Nat), v] w fun e w' => MbIs b t l x ks e w' ∧ Below w.heap.size w w' := by
  have hB : Below w.heap.size w (w.alloc (.cells #[.int .u64 (b : Nat), .int .u64 (t : Nat), .slice a l.length c] 25)) := (Below.refl _ _).alloc (Nat.le_refl _) _
  have HC := Lib.hid (check_log b t a c l _ (h.on hB) hb)
  have HS := Lib.hid (h.on hB)
  have HSW := Lib.hid (h.more (Nat.le_refl _) (Nat.zero_le A))
  have HB := Lib.hid hB
  have HLN := Lib.hid h.len
  have HV := Lib.hid hv
  have C0 := Lib.hid (Bx3.made w (.int .u64 (b : Nat)) (.int .u64 (t : Nat)) (.slice a l.length c) 25)
  have HAH := Lib.hid (fun z (hz : Below _ _ z) => ahead_of b t x a c l z ((h.on hB).on hz) hx hb)
  clear hB h
  obtain ⟨va, vc, rfl⟩ := hv.slice
  clear hv
  cases hk : okB b t l
  · have HBAD := Lib.hid (fun w' => MbIs.bad (x := x) (cur := ks) hk w')
    rw [hk, lgE_f] at HC
    clear hk HS HAH
    go_enter Try.func20, Try.ntmps20
    go_wp2_with (go_at_call 23; go_loud ((with_reducible refine HC.out.mono ?_); rintro e w1 ⟨rfl, hb1⟩; have HB1 := Lib.hid (HB.out.trans (hb1.mono HB.out.size)); have HL1 := Lib.hid hb1; have C1 := Lib.hid (C0.out.below hb1); obtain ⟨d0, d1, d2⟩ := C1.out.cells; clear hb1))
    go_wp2
    go_ret2
    exact ⟨HBAD.out _, HB1.out⟩
  · rw [hk, lgE_t] at HC
    have HGOOD := Lib.hid (fun kz w' A a c hz hI => MbIs.good (w' := w') (A := A) (a := a) (c := c) (x := x) (cur := ks) (ks := kz) hk hz hI)
    have HV0 := Lib.hid (HV.out.more (Nat.le_refl _) (Nat.zero_le A2))
    have HMQ := Lib.hid (mb_eq x ks hb hk)
    have HSR := HSW
    have HLR := HLN
    clear hk HS HAH HSW
    go_enter Try.func20, Try.ntmps20
    go_wp2_with (go_at_call 23; go_loud ((with_reducible refine HC.out.mono ?_); rintro e w1 ⟨rfl, hb1⟩; have HB1 := Lib.hid (HB.out.trans (hb1.mono HB.out.size)); have HL1 := Lib.hid hb1; have C1 := Lib.hid (C0.out.below hb1); obtain ⟨d0, d1, d2⟩ := C1.out.cells; clear hb1))
    go_wp2
    go_loopg [8, 18] l.length (fun gg lv i wx => ∃ (k : Nat) (lw : Value) (cur : List Int), k + gg = l.length ∧ lv = lw ∧ i = .int .i64 k ∧ Aside (IntsR w 0 w.heap.size lw cur) ∧ Aside (Below w.heap.size w wx) ∧ Aside (mbX x ks l = mbX x cur (l.drop k)))
    case atStart => exact ⟨0, _, ks, by omega, rfl, rfl, HV0.out, HB1.out, rfl⟩
    case round =>
      obtain ⟨k, lw, cur, hkg, rfl, rfl, HLV, HBW, HA⟩ := hrel
      cases gk with
      | zero =>
        obtain rfl : k = l.length := by omega
        have HE : Hid (mbX x ks l = cur) := HA.out.trans (by rw [List.drop_length]; rfl)
        obtain ⟨la, lc, rfl⟩ := HLV.out.slice
        clear hkg HA
        obtain ⟨j0, hj, hy0, hy1, hy2⟩ := info_parts info_int
        have HCELL := Lib.hid ((HLV.out.keep HBW.out).more HBW.out.size (Nat.le_refl _))
        have hlv := HLV.out
        obtain ⟨_, _, e0, hk1, hk2, hk3⟩ := hlv
        cases e0
        have OWN0 := Lib.hid (World.ownsRow_made (e := 3) (size := 1) wr #[] 0 (Nat.le_refl _) (Nat.zero_le _) (by simp))
        have HA2 : Hid (Below w.heap.size w (wr.alloc (.cells #[] 3))) := HBW.out.alloc HBW.out.size _
        cases la with
        | none =>
          have h0 : cur = [] := by
            by_cases hn : 0 < cur.length
            · obtain ⟨_, _, he, _⟩ := hk3 hn; cases he
            · exact List.eq_nil_of_length_eq_zero (by omega)
          subst h0
          clear hk1 hk2 hk3
          rw [List.length_nil]
          go_wp2_with (at_builtin; go_loud (refine append_nil rfl _ _ 26 rfl wr.heap.size 3 j0 1 Try.underlying26 hj (.slice (some ⟨wr.heap.size, 0, none⟩) 0 0) 0 lc [] rfl OWN0.out rfl ?_))
          go_ret2
          exact ⟨HGOOD.out _ (wr.alloc (.cells #[] 3)) 0 (some ⟨wr.heap.size, 0, none⟩) 0 (HMQ.out.symm.trans HE.out) ⟨_, _, rfl, by simp, by simp, by simp⟩, HA2.out⟩
        | some ad =>
          have CI := Lib.hid (ints_cells HCELL.out ad rfl)
          have H3 := Lib.hid (show (cur.map fun k => Value.int .i64 k).length = cur.length * 1 by simp)
          have H1 := Lib.hid (map_one cur)
          have HK1 := Lib.hid hk1
          have HK2 := Lib.hid hk2
          have n1 := Lib.hid (show 0 + cur.length ≤ maxLen by simp only [maxLen]; omega)
          have n2 := Lib.hid (show (0 + cur.length) * 8 ≤ 140737488355328 by omega)
          clear hk1 hk2 hk3
          generalize hx : (cur.map fun k => Value.int .i64 k) = xs0 at CI H3 H1
          have HX := Lib.hid hx
          clear hx
          go_wp2_with (at_builtin; go_loud (refine wpList_append_own_at _ rfl _ _ 26 rfl wr.heap.size 3 j0 _ 1 8 Try.underlying26 hj hy0 hy1 hy2 rfl (by omega) (.slice (some ⟨wr.heap.size, 0, none⟩) 0 0) 0 [] rfl OWN0.out ad cur.length lc xs0 rfl H3.out (fun j u hj => Lib.cell?_alloc_some _ (CI.out j u hj)) H1.out n1.out n2.out (by simp) ?_; intro v2 w2 hown hgrow hnil hat; have hown' : w2.ownsRow wr.heap.size 3 1 v2 cur.length (cur.map fun k => Value.int .i64 k) := (by rw [HX.out]; simpa using hown); obtain ⟨a9, c9, rfl, hI, hT⟩ := own_ints hown' HK1.out HK2.out; have HI9 := Lib.hid hI; have HB9 := Lib.hid (HA2.out.grown hgrow HA2.out.size (fun j hj => by cases hj; exact HBW.out.size)); clear hown hown' hgrow hnil hat hI hT))
          go_ret2
          exact ⟨HGOOD.out _ _ _ _ _ (HMQ.out.symm.trans HE.out) HI9.out, HB9.out⟩
      | succ gg =>
        have hlt : k < l.length := by omega
        have hlt2 : (k : Int) < (l.length : Int) := by omega
        have tk : IntKind.i64.wrap ((k : Int) + 1) = (k : Int) + 1 := by have := HLR.out; rw [IntKind.wrap_i64]; omega
        obtain ⟨blk, off, rfl, -, hbk, u, hcw⟩ := HSR.out.at k hlt
        obtain ⟨c0, c1, c2', c3', c4, -, i64, -⟩ := hcw.keep HBW.out hbk
        have iv := hcw.iv
        clear hcw
        have HK := Lib.hid hkg
        have HM := Lib.hid (mbX_at x l k hlt cur)
        have HIV := Lib.hid (iv.more (Nat.le_refl _) (Nat.zero_le _))
        obtain ⟨ua, uc, rfl⟩ := iv.slice
        obtain ⟨la, lc, rfl⟩ := HLV.out.slice
        have HBN := Lib.hid (HBW.out.alloc HBW.out.size (.cells #[.int .u64 (l[k].i : Nat), .int .u64 (l[k].t : Nat), .int .u8 (l[k].k : Nat), .string l[k].d, .slice ua l[k].ks.length uc] 53))
        clear hkg iv i64
        generalize l[k] = e at *
        rcases e with ⟨ei, et, ek, ed, eks⟩
        simp only at c0 c1 c2' c3' c4 HM HIV HBN
        by_cases h3 : ek = 3
        · subst h3
          rw [show ((3 : Nat) : Int) = 3 from rfl] at *
          by_cases h4 : ei ≤ x
          · have x1 : (ei : Int) ≤ (x : Int) := by omega
            have HE : Hid (mbX x ks l = mbX x eks (l.drop (k + 1))) := HA.out.trans (by rw [HM.out]; rw [if_pos rfl, if_pos h4])
            clear HM HA h4
            go_wp2
            go_roundg gg
            case measure => omega
            case rel => exact ⟨k + 1, _, eks, by have := HK.out; omega, rfl, by simp, HIV.out, HBN.out, HE.out⟩
          · have x1 : ¬ (ei : Int) ≤ (x : Int) := by omega
            have x2 : decide ((ei : Int) ≤ (x : Int)) = false := by simp; omega
            have x3 : decide (ei ≤ x) = false := by simp; omega
            have HE : Hid (mbX x ks l = mbX x cur (l.drop (k + 1))) := HA.out.trans (by rw [HM.out]; rw [if_pos rfl, if_neg h4])
            clear HM HA h4
            go_wp2
            go_roundg gg
            case measure => omega
            case rel => exact ⟨k + 1, _, cur, by have := HK.out; omega, rfl, by simp, HLV.out, HBN.out, HE.out⟩
        · have k1 : ¬ (ek : Int) = 3 := by omega
          have k2 : ((ek : Int) == 3) = false := by simp; omega
          have HE : Hid (mbX x ks l = mbX x cur (l.drop (k + 1))) := HA.out.trans (by rw [HM.out]; rw [if_neg h3])
          clear HM HA h3
          go_wp2
          go_roundg gg
          case measure => omega
          case rel => exact ⟨k + 1, _, cur, by have := HK.out; omega, rfl, by simp, HLV.out, HBN.out, HE.out⟩
end Lo
end Go.Proofs.Ythcjnnbnacdhoaa
