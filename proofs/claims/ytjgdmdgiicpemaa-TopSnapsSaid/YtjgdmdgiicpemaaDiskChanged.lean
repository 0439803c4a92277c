/-
  WHAT IS CHANGED: disk.changed at the kinds Add and Sync, where the file is there, and at Add where it comes last.
-/
import Derived.Test.YtjgdmdgiicpemaaDiskRefuse
import Derived.RegionTactic
namespace Go.Proofs.Ytjgdmdgiicpemaa
open Go.RowKit Go.Lib Go.Sort
namespace Dk

theorem Own.keep {w w' : World} {base : Nat} {v : Value} {fs : List Fl} (h : Own w base v fs) (hb : Below w.heap.size w w') : Own w' base v fs := by
  refine ⟨h.1, ?_⟩
  rcases h.2 with h0 | ⟨g, cap, cur, hv, hg, hh, r⟩
  · exact .inl h0
  · exact .inr ⟨g, cap, cur, hv, hg, (hb.block g (Array.getElem?_eq_some_iff.1 hh).1).trans hh, r⟩
theorem Own.drew {w : World} {base : Nat} {v : Value} {fs : List Fl} (h : Own w base v fs) (n : Nat) : Own (w.drewN n) base v fs := h
theorem Own.set1 {w : World} {base g cap : Nat} {fs : List Fl} (h : Own w base (.slice (some ⟨g, 0, none⟩) fs.length cap) fs) (i : Nat) (hi : i < fs.length) (s : ByteArray) :
    Own (w.setCell ⟨g, i * 3 + 1, none⟩ (.string s)) base (.slice (some ⟨g, 0, none⟩) fs.length cap) (fs.set i { fs[i] with da := s }) ∧ w.grownBy (w.setCell ⟨g, i * 3 + 1, none⟩ (.string s)) (some g) := by
  obtain ⟨h1, h2⟩ := World.ownsRow.stored h (i * 3 + 1) (.string s)
  refine ⟨?_, h2⟩
  unfold Own
  rw [List.length_set, ← flat_set1 fs i hi s]
  exact h1
theorem Own.set2 {w : World} {base g cap : Nat} {fs : List Fl} (h : Own w base (.slice (some ⟨g, 0, none⟩) fs.length cap) fs) (i : Nat) (hi : i < fs.length) (s : Int) :
    Own (w.setCell ⟨g, i * 3 + 2, none⟩ (.int .i64 s)) base (.slice (some ⟨g, 0, none⟩) fs.length cap) (fs.set i { fs[i] with sy := s }) ∧ w.grownBy (w.setCell ⟨g, i * 3 + 2, none⟩ (.int .i64 s)) (some g) := by
  obtain ⟨h1, h2⟩ := World.ownsRow.stored h (i * 3 + 2) (.int .i64 s)
  refine ⟨?_, h2⟩
  unfold Own
  rw [List.length_set, ← flat_set2 fs i hi s]
  exact h1

set_option maxRecDepth 100000 in
set_option maxHeartbeats 2000000 in
theorem changed_add_hit (v : Value) (fs : List Fl) (nm da to : ByteArray) (sz : Int) (base : Nat) (w : World) (hbs : base ≤ w.heap.size) (ho : Own w base v fs) (hf : Fine fs) (h4 : fs.length ≤ 4096) (hok : okTo fs fs.length = true) (hn : idxN fs nm < fs.length) (hz : fs[idxN fs nm].da.size + da.size ≤ 9223372036854775807) :
    Calls Try.prog 46 #[v, .agg #[.int .u8 0, .string nm, .string da, .int .i64 sz, .string to]] w fun e w' => e = .returned v ∧ Own w' base v (fs.set (idxN fs nm) { fs[idxN fs nm] with da := fs[idxN fs nm].da ++ da }) ∧ Below base w w' := by
  obtain ⟨g, cap, rfl, hbg, hgl, hc, hfr⟩ := ho.form (by omega)
  have HV := Lib.hid (ho.files hf (by omega))
  have h1 := find_hit (.slice (some ⟨g, 0, none⟩) fs.length cap) fs nm (w.alloc (.cells #[.int .u8 0, .string nm, .string da, .int .i64 sz, .string to] 66)) (HV.out.al _) h4 hok hn
  rw [World.size_alloc] at h1
  have c2 := (hc _ hn).2.1
  have HC2 := Lib.hid c2
  have HO := Lib.hid ho
  have HE : Hid (∀ w1 : World, Below w.heap.size w w1 → Own (w1.setCell ⟨g, idxN fs nm * 3 + 1, none⟩ (.string (fs[idxN fs nm].da ++ da))) base (.slice (some ⟨g, 0, none⟩) fs.length cap) (fs.set (idxN fs nm) { fs[idxN fs nm] with da := fs[idxN fs nm].da ++ da }) ∧ Below base w (w1.setCell ⟨g, idxN fs nm * 3 + 1, none⟩ (.string (fs[idxN fs nm].da ++ da)))) := by
    intro w1 hb
    obtain ⟨h1, h2⟩ := (HO.out.keep hb).set1 (idxN fs nm) hn (fs[idxN fs nm].da ++ da)
    exact ⟨h1, (hb.mono hbs).grown h2 (Nat.le_trans hbs hb.size) (fun k hk => by cases hk; exact hbg)⟩
  have HF := Lib.hid (hfr (idxN fs nm * 3 + 1))
  have t3 : ¬ (9223372036854775807 < fs[idxN fs nm].da.size + da.size) := by omega
  have t1 : ((idxN fs nm : Nat) : Int) < (fs.length : Int) := by omega
  have t2 : (0 : Int) ≤ ((idxN fs nm : Nat) : Int) := by omega
  clear hok c2 hc hfr ho hf
  generalize fs.set (idxN fs nm) { fs[idxN fs nm] with da := fs[idxN fs nm].da ++ da } = fs2 at *
  generalize fs[idxN fs nm].da = y at *
  generalize idxN fs nm = k at *
  go_enter Try.func46, Try.ntmps46
  go_wp2_with (go_at_call 25; refine h1.mono ?_; rintro e w1 ⟨rfl, hb⟩; obtain ⟨d0, d1, d2, d3, d4⟩ := boxC hb; have HB := Lib.hid (over hb); have f2 := ((over hb).cell (by exact hgl)).trans HC2.out; have f3 := ((over hb).frozen (p := ⟨g, k * 3 + 1, none⟩) (by exact hgl)).trans HF.out; clear hb)
  go_region
  all_goals go_wp2
  all_goals go_ret
  all_goals (refine ⟨rfl, ?_, ?_⟩)
  all_goals first | exact (HE.out _ HB.out).1 | exact (HE.out _ (bdN HB.out _)).1 | exact bdN (HE.out _ HB.out).2 _ | exact (HE.out _ (bdN HB.out _)).2

set_option maxRecDepth 100000 in
set_option maxHeartbeats 2000000 in
theorem changed_sync_hit (v : Value) (fs : List Fl) (nm da to : ByteArray) (sz : Int) (base : Nat) (w : World) (hbs : base ≤ w.heap.size) (ho : Own w base v fs) (hf : Fine fs) (h4 : fs.length ≤ 4096) (hok : okTo fs fs.length = true) (hn : idxN fs nm < fs.length) :
    Calls Try.prog 46 #[v, .agg #[.int .u8 1, .string nm, .string da, .int .i64 sz, .string to]] w fun e w' => e = .returned v ∧ Own w' base v (fs.set (idxN fs nm) { fs[idxN fs nm] with sy := (fs[idxN fs nm].da.size : Int) }) ∧ Below base w w' := by
  obtain ⟨g, cap, rfl, hbg, hgl, hc, hfr⟩ := ho.form (by omega)
  have HV := Lib.hid (ho.files hf (by omega))
  have h1 := find_hit (.slice (some ⟨g, 0, none⟩) fs.length cap) fs nm (w.alloc (.cells #[.int .u8 1, .string nm, .string da, .int .i64 sz, .string to] 66)) (HV.out.al _) h4 hok hn
  rw [World.size_alloc] at h1
  have c2 := (hc _ hn).2.1
  have HC2 := Lib.hid c2
  have c3 := (hc _ hn).2.2
  have HC3 := Lib.hid c3
  have HO := Lib.hid ho
  have HE : Hid (∀ w1 : World, Below w.heap.size w w1 → Own (w1.setCell ⟨g, idxN fs nm * 3 + 2, none⟩ (.int .i64 (fs[idxN fs nm].da.size : Int))) base (.slice (some ⟨g, 0, none⟩) fs.length cap) (fs.set (idxN fs nm) { fs[idxN fs nm] with sy := (fs[idxN fs nm].da.size : Int) }) ∧ Below base w (w1.setCell ⟨g, idxN fs nm * 3 + 2, none⟩ (.int .i64 (fs[idxN fs nm].da.size : Int)))) := by
    intro w1 hb
    obtain ⟨h1, h2⟩ := (HO.out.keep hb).set2 (idxN fs nm) hn (fs[idxN fs nm].da.size : Int)
    exact ⟨h1, (hb.mono hbs).grown h2 (Nat.le_trans hbs hb.size) (fun k hk => by cases hk; exact hbg)⟩
  have HF := Lib.hid (hfr (idxN fs nm * 3 + 2))
  have t1 : ((idxN fs nm : Nat) : Int) < (fs.length : Int) := by omega
  have t2 : (0 : Int) ≤ ((idxN fs nm : Nat) : Int) := by omega
  clear hok c2 c3 hc hfr ho hf
  generalize fs.set (idxN fs nm) { fs[idxN fs nm] with sy := (fs[idxN fs nm].da.size : Int) } = fs2 at *
  generalize fs[idxN fs nm].da = y at *
  generalize fs[idxN fs nm].sy = z at *
  generalize idxN fs nm = k at *
  go_enter Try.func46, Try.ntmps46
  go_wp2_with (go_at_call 25; refine h1.mono ?_; rintro e w1 ⟨rfl, hb⟩; obtain ⟨d0, d1, d2, d3, d4⟩ := boxC hb; have HB := Lib.hid (over hb); have f2 := ((over hb).cell (by exact hgl)).trans HC2.out; have f4 := ((over hb).cell (by exact hgl)).trans HC3.out; have f3 := ((over hb).frozen (p := ⟨g, k * 3 + 2, none⟩) (by exact hgl)).trans HF.out; clear hb)
  go_ret
  exact ⟨rfl, (HE.out _ HB.out).1, (HE.out _ HB.out).2⟩
end Dk
end Go.Proofs.Ytjgdmdgiicpemaa
