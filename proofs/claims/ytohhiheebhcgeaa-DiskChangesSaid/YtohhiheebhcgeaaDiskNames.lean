/-
  Names: its error (what names it tells is not said here).
-/
import Derived.Test.YtohhiheebhcgeaaDiskLives2
namespace Go.Proofs.Ytohhiheebhcgeaa
open Go.RowKit Go.Lib Go.Sort
namespace Dk
theorem prefix_lite (s p : ByteArray) (w : World) : Calls Try.prog 48 #[.string s, .string p] w fun e w' => (∃ b, e = .returned (.bool b)) ∧ w' = w := by
  by_cases h : p.size ≤ s.size
  · have t1 : decide ((s.size : Int) < (p.size : Int)) = false := by simp; omega
    have t2 : (p.size : Int) ≤ (s.size : Int) := by omega
    go_enter Try.func48, Try.ntmps48
    go_wp2
    go_ret
    exact ⟨⟨_, rfl⟩, rfl⟩
  · have t1 : decide ((p.size : Int) ≤ (s.size : Int)) = false := by simp; omega
    have t2 : (s.size : Int) < (p.size : Int) := by omega
    go_enter Try.func48, Try.ntmps48
    go_wp2
    go_ret
    exact ⟨⟨_, rfl⟩, rfl⟩
theorem prefix_any (s p : ByteArray) (w : World) : Calls Try.prog 42 #[.string s, .string p] w fun e w' => (∃ b, e = .returned (.bool b)) ∧ w' = w := by
  have h := prefix_lite s p w
  go_enter Try.func42, Try.ntmps42
  go_wp2_with (go_at_call 48; refine h.mono ?_; rintro e w' ⟨⟨b, rfl⟩, rfl⟩)
  go_ret
  exact ⟨⟨_, rfl⟩, rfl⟩
theorem info_str : (Try.prog.info? 9).map (fun i => (i.zero, i.size, i.bytes)) = some (some (.string ByteArray.empty), 1, 16) := by kernel_rfl

set_option maxRecDepth 100000 in
set_option maxHeartbeats 4000000 in
theorem names_own (v : Value) (dn : Bool) (fu : Int) (fs : List Fl) (pre : ByteArray) (w : World) (hv : Files w w.heap.size v fs) :
    Calls Try.prog 26 #[.agg #[v, .bool dn, .int .i64 fu], .string pre] w fun e w' => (∃ v', e = .returned (.tuple #[v', .int .i64 (rdN fs dn : Nat)])) ∧ Below w.heap.size w w' := by
  have HV := Lib.hid hv
  obtain ⟨a, c, rfl, hl, hs, hc⟩ := hv
  have HC := Lib.hid hc
  clear hs hc
  have h0 := ready_own (.slice a fs.length c) dn fu fs (w.alloc (.cells #[.slice a fs.length c, .bool dn, .int .i64 fu] 24)) (HV.out.al _)
  rw [World.size_alloc] at h0
  by_cases hr : rdN fs dn = 0
  · rw [hr] at h0 ⊢
    obtain ⟨i0, hi, hz0, hz1, hz2⟩ := info_parts info_str
    have h4 := (chk_fine fs (rd_chk fs dn hr).1).1
    clear hr
    have h1 : Calls Try.prog 40 #[.agg #[.slice a fs.length c, .bool dn, .int .i64 fu]] (w.alloc (.cells #[.slice a fs.length c, .bool dn, .int .i64 fu] 24)) (fun e w' => e = .returned (.int .i64 0) ∧ Below (w.heap.size + 1) (w.alloc (.cells #[.slice a fs.length c, .bool dn, .int .i64 fu] 24)) w') := h0
    clear h0
    go_enter Try.func26, Try.ntmps26
    go_wp2_with (go_at_call 40; go_loud (refine h1.mono ?_; rintro e w1 ⟨rfl, hb⟩; obtain ⟨d1, d2, d3⟩ := boxD hb; have HB1 := Lib.hid (over hb); have HS1 := Lib.hid (show w.heap.size + 1 ≤ w1.heap.size by have := hb.size; simp at this; omega); clear hb))
    go_loopg [18, 7] fs.length (fun g i r wx => ∃ k n : Nat, ∃ xs : List Value, k + g = fs.length ∧ n ≤ k ∧ i = .int .i64 k ∧ Aside (wx.ownsRow w1.heap.size 9 1 r n xs) ∧ Below w1.heap.size w1 wx)
    case atStart => exact ⟨0, 0, [], by omega, Nat.le_refl _, rfl, World.ownsRow_nil _ _ _ _, Below.refl _ _⟩
    case round =>
      obtain ⟨k, n, xs, hkg, hnk, rfl, HO, hbx⟩ := hrel
      have HX := Lib.hid hbx
      have HOW : Hid _ := HO
      cases gk with
      | zero =>
        obtain rfl : k = fs.length := by omega
        clear hkg hbx
        go_wp2
        go_ret2
        exact ⟨⟨_, rfl⟩, HB1.out.trans (HX.out.mono (by have := HS1.out; omega))⟩
      | succ g =>
        have hlk : k < fs.length := by omega
        have HG := Lib.hid hkg
        have HNK := Lib.hid hnk
        clear hkg hnk
        obtain ⟨b, off, rfl, hblt, hc⟩ := HC.out (by omega)
        obtain ⟨c1, c2, c3⟩ := hc k hlk
        have keep : ∀ o u, w.cell? ⟨b, o, none⟩ = some u → wr.cell? ⟨b, o, none⟩ = some u := by
          intro o u hu
          rw [hbx.cell (by show b < _; have := HS1.out; omega), HB1.out.cell (by exact hblt)]
          exact hu
        have hc1 := keep _ _ c1
        have hc2 := keep _ _ c2
        have hc3 := keep _ _ c3
        have hsz := hbx.size
        have hne : b ≠ wr.heap.size := by have := HS1.out; omega
        have t1 : (k : Int) < (fs.length : Int) := by omega
        have HSZ := Lib.hid hsz
        clear hbx keep hc c1 c2 c3 hsz
        generalize fs[k] = f at *
        have HP := Lib.hid (prefix_any f.nm pre)
        have HAO := Lib.hid ((HOW.out.alloc (.cells #[.string f.nm, .string f.da, .int .i64 f.sy] 46)).alloc (.cells #[.string f.nm] 9))
        have HNW : Hid (∀ j u, [Value.string f.nm][j]? = some u → ((wr.alloc (.cells #[.string f.nm, .string f.da, .int .i64 f.sy] 46)).alloc (.cells #[.string f.nm] 9)).cell? ((⟨wr.heap.size + 1, 0, none⟩ : Addr).add j) = some u) := by
          intro j u hj
          match j, hj with
          | 0, hj =>
            rw [Addr.add_lit]
            have e : u = .string f.nm := by simpa using hj.symm
            rw [e]; simp [go_sem]
          | j + 1, hj => simp at hj
        have HMX := Lib.hid (show n + 1 ≤ maxLen by simp only [maxLen]; have := HNK.out; omega)
        have HBY := Lib.hid (show (n + 1) * 16 ≤ 140737488355328 by have := HNK.out; omega)
        have HBS := Lib.hid (show w1.heap.size ≤ ((wr.alloc (.cells #[.string f.nm, .string f.da, .int .i64 f.sy] 46)).alloc (.cells #[.string f.nm] 9)).heap.size by simp; have := HSZ.out; omega)
        have HON : Hid (∀ u ∈ [Value.string f.nm], u.oneCell' = true) := by intro u hu; simp at hu; subst hu; rfl
        go_wp2_with (first | (go_at_call 42; refine (HP.out _).mono ?_; rintro e w2 ⟨⟨bb, rfl⟩, rfl⟩; cases bb) | (at_builtin; refine wpList_append_own _ rfl _ _ 37 rfl w1.heap.size 9 i0 _ 1 16 Try.underlying37 hi hz0 hz1 hz2 rfl (by omega) _ n xs rfl HAO.out ⟨wr.heap.size + 1, 0, none⟩ 1 1 [.string f.nm] rfl rfl HNW.out HON.out HMX.out HBY.out HBS.out ?_; intro v' w3 hown hgrow hnil; have HO3 := Lib.hid hown; have HG3 := Lib.hid hgrow; clear hown hgrow hnil))
        · go_roundg g
          case measure => omega
          case rel => exact ⟨k + 1, n, xs, by have := HG.out; omega, by have := HNK.out; omega, by go_num, HOW.out.alloc _, HX.out.alloc HSZ.out _⟩
        · go_roundg g
          case measure => omega
          case rel => exact ⟨k + 1, n + 1, _, by have := HG.out; omega, by have := HNK.out; omega, by go_num, HO3.out, ((HX.out.alloc HSZ.out _).alloc (by simp; have := HSZ.out; omega) _).grown HG3.out HBS.out (fun q hq => (HOW.out.lt q hq).1)⟩
  · have t1 : ¬ ((rdN fs dn : Int) = 0) := by omega
    go_enter Try.func26, Try.ntmps26
    go_wp2_with (go_at_call 40; go_loud (refine h0.mono ?_; rintro e w1 ⟨rfl, hb⟩; have HB1 := Lib.hid (over hb); clear hb))
    go_ret2
    exact ⟨⟨_, rfl⟩, HB1.out⟩
end Dk
end Go.Proofs.Ytohhiheebhcgeaa
