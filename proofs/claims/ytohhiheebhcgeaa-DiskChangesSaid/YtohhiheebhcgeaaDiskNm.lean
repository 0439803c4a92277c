/-
  Names, the program's and the document's: which names they tell.
-/
import Derived.Test.YtohhiheebhcgeaaDiskNames
namespace Go.Proofs.Ytohhiheebhcgeaa
open Go.RowKit Go.Lib Go.Sort
namespace Dk
/-- Whether s begins with p. -/
def pfx (s p : ByteArray) : Bool := decide (p.size ≤ s.size) && ((s.extract 0 p.size).toList == p.toList)
theorem pfx_lite (s p : ByteArray) (w : World) : Calls Try.prog 48 #[.string s, .string p] w fun e w' => e = .returned (.bool (pfx s p)) ∧ w' = w := by
  by_cases h : p.size ≤ s.size
  · have t1 : decide ((s.size : Int) < (p.size : Int)) = false := by simp; omega
    have t2 : (p.size : Int) ≤ (s.size : Int) := by omega
    go_enter Try.func48, Try.ntmps48
    go_wp2
    go_ret
    refine ⟨?_, rfl⟩
    unfold pfx
    simp [h]
  · have t1 : decide ((p.size : Int) ≤ (s.size : Int)) = false := by simp; omega
    have t2 : (s.size : Int) < (p.size : Int) := by omega
    go_enter Try.func48, Try.ntmps48
    go_wp2
    go_ret
    refine ⟨?_, rfl⟩
    unfold pfx
    simp [h]
theorem pfx_own (s p : ByteArray) (w : World) : Calls Try.prog 42 #[.string s, .string p] w fun e w' => e = .returned (.bool (pfx s p)) ∧ w' = w := by
  have h := pfx_lite s p w
  go_enter Try.func42, Try.ntmps42
  go_wp2_with (go_at_call 48; refine h.mono ?_; rintro e w' ⟨rfl, rfl⟩)
  go_ret
  exact ⟨rfl, rfl⟩
/-- The names that begin so, of the first k files. -/
def nmT (fs : List Fl) (p : ByteArray) (k : Nat) : List ByteArray := ((fs.take k).filter (fun f => pfx f.nm p)).map (·.nm)
theorem nmT_zero (fs : List Fl) (p : ByteArray) : nmT fs p 0 = [] := by simp [nmT]
theorem nmT_next (fs : List Fl) (p : ByteArray) (k : Nat) (h : k < fs.length) : nmT fs p (k + 1) = nmT fs p k ++ (if pfx fs[k].nm p then [fs[k].nm] else []) := by
  unfold nmT
  rw [List.take_add_one, List.getElem?_eq_getElem h, List.filter_append, List.map_append]
  by_cases hp : pfx fs[k].nm p = true <;> simp [hp]
theorem nmT_len (fs : List Fl) (p : ByteArray) (k : Nat) : (nmT fs p k).length ≤ k := by
  unfold nmT
  rw [List.length_map]
  exact Nat.le_trans (List.length_filter_le _ _) (by rw [List.length_take]; omega)
theorem row_le {w : World} {base base' : Nat} {e : TypeId} {size n : Nat} {v : Value} {xs : List Value} (h : w.ownsRow base e size v n xs) (hb : base' ≤ base) : w.ownsRow base' e size v n xs := ⟨h.1, h.2.elim Or.inl (fun ⟨g, cap, cur, hv, hg, r⟩ => Or.inr ⟨g, cap, cur, hv, Nat.le_trans hb hg, r⟩)⟩
/-- What Names tells. -/
def nms (fs : List Fl) (dn : Bool) (p : ByteArray) : List ByteArray := if rdN fs dn = 0 then nmT fs p fs.length else []
def NamesIs (w : World) (fs : List Fl) (dn : Bool) (p : ByteArray) (e : Ending) (w' : World) : Prop :=
  ∃ v', e = .returned (.tuple #[v', .int .i64 (rdN fs dn : Nat)]) ∧ w'.ownsRow w.heap.size 9 1 v' (nms fs dn p).length ((nms fs dn p).map .string) ∧ Below w.heap.size w w'

set_option maxRecDepth 100000 in
set_option maxHeartbeats 4000000 in
theorem names_all (v : Value) (dn : Bool) (fu : Int) (fs : List Fl) (pre : ByteArray) (w : World) (hv : Files w w.heap.size v fs) :
    Calls Try.prog 26 #[.agg #[v, .bool dn, .int .i64 fu], .string pre] w (NamesIs w fs dn pre) := by
  have HV := Lib.hid hv
  obtain ⟨a, c, rfl, hl, hs, hc⟩ := hv
  have HC := Lib.hid hc
  clear hs hc
  have h0 := ready_own (.slice a fs.length c) dn fu fs (w.alloc (.cells #[.slice a fs.length c, .bool dn, .int .i64 fu] 24)) (HV.out.al _)
  rw [World.size_alloc] at h0
  unfold NamesIs
  by_cases hr : rdN fs dn = 0
  · rw [show nms fs dn pre = nmT fs pre fs.length by unfold nms; rw [if_pos hr]]
    rw [hr] at h0 ⊢
    obtain ⟨i0, hi, hz0, hz1, hz2⟩ := info_parts info_str
    have h4 := (chk_fine fs (rd_chk fs dn hr).1).1
    clear hr
    have h1 : Calls Try.prog 40 #[.agg #[.slice a fs.length c, .bool dn, .int .i64 fu]] (w.alloc (.cells #[.slice a fs.length c, .bool dn, .int .i64 fu] 24)) (fun e w' => e = .returned (.int .i64 0) ∧ Below (w.heap.size + 1) (w.alloc (.cells #[.slice a fs.length c, .bool dn, .int .i64 fu] 24)) w') := h0
    clear h0
    go_enter Try.func26, Try.ntmps26
    go_wp2_with (go_at_call 40; go_loud (refine h1.mono ?_; rintro e w1 ⟨rfl, hb⟩; obtain ⟨d1, d2, d3⟩ := boxD hb; have HB1 := Lib.hid (over hb); have HS1 := Lib.hid (show w.heap.size + 1 ≤ w1.heap.size by have := hb.size; simp at this; omega); clear hb))
    go_loopg [18, 7] fs.length (fun g i r wx => ∃ k : Nat, k + g = fs.length ∧ i = .int .i64 k ∧ Aside (wx.ownsRow w1.heap.size 9 1 r (nmT fs pre k).length ((nmT fs pre k).map .string)) ∧ Below w1.heap.size w1 wx)
    case atStart => exact ⟨0, by omega, rfl, by rw [nmT_zero]; exact World.ownsRow_nil _ _ _ _, Below.refl _ _⟩
    case round =>
      obtain ⟨k, hkg, rfl, HO, hbx⟩ := hrel
      have HX := Lib.hid hbx
      have HOW : Hid _ := HO
      cases gk with
      | zero =>
        obtain rfl : k = fs.length := by omega
        clear hkg hbx
        go_wp2
        go_ret2
        exact ⟨_, rfl, row_le HOW.out (by have := HS1.out; omega), HB1.out.trans (HX.out.mono (by have := HS1.out; omega))⟩
      | succ g =>
        have hlk : k < fs.length := by omega
        have HG := Lib.hid hkg
        have HNK := Lib.hid (nmT_len fs pre k)
        have HNX := Lib.hid (nmT_next fs pre k hlk)
        clear hkg
        obtain ⟨b, off, rfl, hblt, hc⟩ := HC.out (by omega)
        obtain ⟨c1, c2, c3⟩ := hc k hlk
        have keep : ∀ o u, w.cell? ⟨b, o, none⟩ = some u → wr.cell? ⟨b, o, none⟩ = some u := by
          intro o u hu
          rw [hbx.cell (by show b < _; have := HS1.out; omega), HB1.out.cell (by exact hblt)]
          exact hu
        have hc1 := keep _ _ c1
        have hc2 := keep _ _ c2
        have hc3 := keep _ _ c3
        have hsz := hbx.size
        have hne : b ≠ wr.heap.size := by have := HS1.out; omega
        have t1 : (k : Int) < (fs.length : Int) := by omega
        have HSZ := Lib.hid hsz
        clear hbx keep hc c1 c2 c3 hsz
        generalize fs[k] = f at *
        have HP := Lib.hid (pfx_own f.nm pre)
        have HAO := Lib.hid ((HOW.out.alloc (.cells #[.string f.nm, .string f.da, .int .i64 f.sy] 46)).alloc (.cells #[.string f.nm] 9))
        have HNW : Hid (∀ j u, [Value.string f.nm][j]? = some u → ((wr.alloc (.cells #[.string f.nm, .string f.da, .int .i64 f.sy] 46)).alloc (.cells #[.string f.nm] 9)).cell? ((⟨wr.heap.size + 1, 0, none⟩ : Addr).add j) = some u) := by
          intro j u hj
          match j, hj with
          | 0, hj =>
            rw [Addr.add_lit]
            have e : u = .string f.nm := by simpa using hj.symm
            rw [e]; simp [go_sem]
          | j + 1, hj => simp at hj
        have HMX := Lib.hid (show (nmT fs pre k).length + 1 ≤ maxLen by simp only [maxLen]; have := HNK.out; omega)
        have HBY := Lib.hid (show ((nmT fs pre k).length + 1) * 16 ≤ 140737488355328 by have := HNK.out; omega)
        have HBS := Lib.hid (show w1.heap.size ≤ ((wr.alloc (.cells #[.string f.nm, .string f.da, .int .i64 f.sy] 46)).alloc (.cells #[.string f.nm] 9)).heap.size by simp; have := HSZ.out; omega)
        have HON : Hid (∀ u ∈ [Value.string f.nm], u.oneCell' = true) := by intro u hu; simp at hu; subst hu; rfl
        cases hpf : pfx f.nm pre
        · rw [hpf] at HP HNX
          rw [if_neg (by simp), List.append_nil] at HNX
          go_wp2_with (go_at_call 42; refine (HP.out _).mono ?_; rintro e w2 ⟨rfl, rfl⟩)
          go_roundg g
          case measure => omega
          case rel => exact ⟨k + 1, by have := HG.out; omega, by go_num, by show World.ownsRow _ _ _ _ _ _ _; rw [HNX.out]; exact HOW.out.alloc _, HX.out.alloc HSZ.out _⟩
        · rw [hpf] at HP HNX
          rw [if_pos rfl] at HNX
          go_wp2_with (first | (go_at_call 42; refine (HP.out _).mono ?_; rintro e w2 ⟨rfl, rfl⟩) | (at_builtin; refine wpList_append_own _ rfl _ _ 37 rfl w1.heap.size 9 i0 _ 1 16 Try.underlying37 hi hz0 hz1 hz2 rfl (by omega) _ _ _ rfl HAO.out ⟨wr.heap.size + 1, 0, none⟩ 1 1 [.string f.nm] rfl rfl HNW.out HON.out HMX.out HBY.out HBS.out ?_; intro v' w3 hown hgrow hnil; have HO3 := Lib.hid hown; have HG3 := Lib.hid hgrow; clear hown hgrow hnil))
          go_roundg g
          case measure => omega
          case rel => exact ⟨k + 1, by have := HG.out; omega, by go_num, by show World.ownsRow _ _ _ _ _ _ _; rw [HNX.out, List.map_append, List.length_append]; exact HO3.out, ((HX.out.alloc HSZ.out _).alloc (by simp; have := HSZ.out; omega) _).grown HG3.out HBS.out (fun q hq => (HOW.out.lt q hq).1)⟩
  · have t1 : ¬ ((rdN fs dn : Int) = 0) := by omega
    rw [show nms fs dn pre = [] by unfold nms; rw [if_neg hr]]
    go_enter Try.func26, Try.ntmps26
    go_wp2_with (go_at_call 40; go_loud (refine h0.mono ?_; rintro e w1 ⟨rfl, hb⟩; have HB1 := Lib.hid (over hb); clear hb))
    go_ret2
    exact ⟨_, rfl, World.ownsRow_nil _ _ _ _, HB1.out⟩

set_option maxRecDepth 100000 in
set_option maxHeartbeats 4000000 in
theorem names_ref (v : Value) (dn : Bool) (fu : Int) (fs : List Fl) (pre : ByteArray) (w : World) (hv : Files w w.heap.size v fs) :
    Calls Try.prog 27 #[.agg #[v, .bool dn, .int .i64 fu], .string pre] w (NamesIs w fs dn pre) := by
  have HV := Lib.hid hv
  obtain ⟨a, c, rfl, hl, hs, hc⟩ := hv
  have HC := Lib.hid hc
  clear hs hc
  unfold NamesIs
  rcases rd_cases fs dn with ⟨hk, h⟩ | ⟨hk, rfl, h⟩ | ⟨hk, rfl, h⟩
  · have h1 := ref_bad (.slice a fs.length c) dn fu fs (w.alloc (.cells #[.slice a fs.length c, .bool dn, .int .i64 fu] 24)) (HV.out.al _) hk
    rw [World.size_alloc] at h1
    rw [show nms fs dn pre = [] by unfold nms; rw [h]; rfl, h]
    clear h hk
    go_enter Try.func27, Try.ntmps27
    go_wp2_with (go_at_call 29; refine h1.mono ?_; rintro e w' ⟨rfl, hb⟩; have HB := Lib.hid hb; clear hb)
    go_ret2
    exact ⟨_, rfl, World.ownsRow_nil _ _ _ _, over HB.out⟩
  · have h1 := ref_ok (.slice a fs.length c) true fu fs (w.alloc (.cells #[.slice a fs.length c, .bool true, .int .i64 fu] 24)) (HV.out.al _) hk
    rw [World.size_alloc] at h1
    rw [show nms fs true pre = [] by unfold nms; rw [h]; rfl, h]
    clear h hk
    go_enter Try.func27, Try.ntmps27
    go_wp2_with (go_at_call 29; refine h1.mono ?_; rintro e w1 ⟨rfl, hb⟩; obtain ⟨d1, d2, d3⟩ := boxD hb; have HB := Lib.hid hb; clear hb)
    go_ret2
    exact ⟨_, rfl, World.ownsRow_nil _ _ _ _, over HB.out⟩
  · rw [show nms fs false pre = nmT fs pre fs.length by unfold nms; rw [h]; rfl, h]
    have h1 := ref_ok (.slice a fs.length c) false fu fs (w.alloc (.cells #[.slice a fs.length c, .bool false, .int .i64 fu] 24)) (HV.out.al _) hk
    rw [World.size_alloc] at h1
    obtain ⟨i0, hi, hz0, hz1, hz2⟩ := info_parts info_str
    have h4 := (chk_fine fs hk).1
    clear h hk
    go_enter Try.func27, Try.ntmps27
    go_wp2_with (go_at_call 29; go_loud (refine h1.mono ?_; rintro e w1 ⟨rfl, hb⟩; obtain ⟨d1, d2, d3⟩ := boxD hb; have HB1 := Lib.hid (over hb); have HS1 := Lib.hid (show w.heap.size + 1 ≤ w1.heap.size by have := hb.size; simp at this; omega); clear hb))
    go_loopg [17, 6] fs.length (fun g i r wx => ∃ k : Nat, k + g = fs.length ∧ i = .int .i64 k ∧ Aside (wx.ownsRow w1.heap.size 9 1 r (nmT fs pre k).length ((nmT fs pre k).map .string)) ∧ Below w1.heap.size w1 wx)
    case atStart => exact ⟨0, by omega, rfl, by rw [nmT_zero]; exact World.ownsRow_nil _ _ _ _, Below.refl _ _⟩
    case round =>
      obtain ⟨k, hkg, rfl, HO, hbx⟩ := hrel
      have HX := Lib.hid hbx
      have HOW : Hid _ := HO
      cases gk with
      | zero =>
        obtain rfl : k = fs.length := by omega
        clear hkg hbx
        go_wp2
        go_ret2
        exact ⟨_, rfl, row_le HOW.out (by have := HS1.out; omega), HB1.out.trans (HX.out.mono (by have := HS1.out; omega))⟩
      | succ g =>
        have hlk : k < fs.length := by omega
        have HG := Lib.hid hkg
        have HNK := Lib.hid (nmT_len fs pre k)
        have HNX := Lib.hid (nmT_next fs pre k hlk)
        clear hkg
        obtain ⟨b, off, rfl, hblt, hc⟩ := HC.out (by omega)
        obtain ⟨c1, c2, c3⟩ := hc k hlk
        have keep : ∀ o u, w.cell? ⟨b, o, none⟩ = some u → wr.cell? ⟨b, o, none⟩ = some u := by
          intro o u hu
          rw [hbx.cell (by show b < _; have := HS1.out; omega), HB1.out.cell (by exact hblt)]
          exact hu
        have hc1 := keep _ _ c1
        have hc2 := keep _ _ c2
        have hc3 := keep _ _ c3
        have hsz := hbx.size
        have hne : b ≠ wr.heap.size := by have := HS1.out; omega
        have t1 : (k : Int) < (fs.length : Int) := by omega
        have HSZ := Lib.hid hsz
        clear hbx keep hc c1 c2 c3 hsz
        generalize fs[k] = f at *
        have HAO := Lib.hid ((HOW.out.alloc (.cells #[.string f.nm, .string f.da, .int .i64 f.sy] 46)).alloc (.cells #[.string f.nm] 9))
        have HNW : Hid (∀ j u, [Value.string f.nm][j]? = some u → ((wr.alloc (.cells #[.string f.nm, .string f.da, .int .i64 f.sy] 46)).alloc (.cells #[.string f.nm] 9)).cell? ((⟨wr.heap.size + 1, 0, none⟩ : Addr).add j) = some u) := by
          intro j u hj
          match j, hj with
          | 0, hj =>
            rw [Addr.add_lit]
            have e : u = .string f.nm := by simpa using hj.symm
            rw [e]; simp [go_sem]
          | j + 1, hj => simp at hj
        have HMX := Lib.hid (show (nmT fs pre k).length + 1 ≤ maxLen by simp only [maxLen]; have := HNK.out; omega)
        have HBY := Lib.hid (show ((nmT fs pre k).length + 1) * 16 ≤ 140737488355328 by have := HNK.out; omega)
        have HBS := Lib.hid (show w1.heap.size ≤ ((wr.alloc (.cells #[.string f.nm, .string f.da, .int .i64 f.sy] 46)).alloc (.cells #[.string f.nm] 9)).heap.size by simp; have := HSZ.out; omega)
        have HON : Hid (∀ u ∈ [Value.string f.nm], u.oneCell' = true) := by intro u hu; simp at hu; subst hu; rfl
        by_cases hsz2 : pre.size ≤ f.nm.size
        · have t2 : (pre.size : Int) ≤ (f.nm.size : Int) := by omega
          cases hpf : ((f.nm.extract 0 pre.size).toList == pre.toList)
          · rw [show pfx f.nm pre = false by unfold pfx; rw [hpf]; simp, if_neg (by simp), List.append_nil] at HNX
            go_wp2
            go_roundg g
            case measure => omega
            case rel => exact ⟨k + 1, by have := HG.out; omega, by go_num, by show World.ownsRow _ _ _ _ _ _ _; rw [HNX.out]; exact HOW.out.alloc _, HX.out.alloc HSZ.out _⟩
          · rw [show pfx f.nm pre = true by unfold pfx; rw [hpf]; simp [hsz2], if_pos rfl] at HNX
            go_wp2_with (at_builtin; refine wpList_append_own _ rfl _ _ 37 rfl w1.heap.size 9 i0 _ 1 16 Try.underlying37 hi hz0 hz1 hz2 rfl (by omega) _ _ _ rfl HAO.out ⟨wr.heap.size + 1, 0, none⟩ 1 1 [.string f.nm] rfl rfl HNW.out HON.out HMX.out HBY.out HBS.out ?_; intro v' w3 hown hgrow hnil; have HO3 := Lib.hid hown; have HG3 := Lib.hid hgrow; clear hown hgrow hnil)
            go_roundg g
            case measure => omega
            case rel => exact ⟨k + 1, by have := HG.out; omega, by go_num, by show World.ownsRow _ _ _ _ _ _ _; rw [HNX.out, List.map_append, List.length_append]; exact HO3.out, ((HX.out.alloc HSZ.out _).alloc (by simp; have := HSZ.out; omega) _).grown HG3.out HBS.out (fun q hq => (HOW.out.lt q hq).1)⟩
        · have t2 : decide ((pre.size : Int) ≤ (f.nm.size : Int)) = false := by simp; omega
          rw [show pfx f.nm pre = false by unfold pfx; simp [hsz2], if_neg (by simp), List.append_nil] at HNX
          go_wp2
          go_roundg g
          case measure => omega
          case rel => exact ⟨k + 1, by have := HG.out; omega, by go_num, by show World.ownsRow _ _ _ _ _ _ _; rw [HNX.out]; exact HOW.out.alloc _, HX.out.alloc HSZ.out _⟩
end Dk
end Go.Proofs.Ytohhiheebhcgeaa
