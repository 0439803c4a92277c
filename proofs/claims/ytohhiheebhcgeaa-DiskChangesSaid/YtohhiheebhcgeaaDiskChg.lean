/-
  disk.changed at Add (the file is not there), Cut, Swap.
-/
import Derived.Test.YtohhiheebhcgeaaDiskPut
namespace Go.Proofs.Ytohhiheebhcgeaa
open Go.RowKit Go.Lib Go.Sort
namespace Dk
set_option maxRecDepth 100000 in
set_option maxHeartbeats 4000000 in
theorem changed_add_miss (v : Value) (fs : List Fl) (nm da to : ByteArray) (sz : Int) (base : Nat) (w : World) (hbs : base ≤ w.heap.size) (ho : Own w base v fs) (hf : Fine fs) (h4 : fs.length ≤ 4096) (hok : okTo fs fs.length = true) (hn : ¬ idxN fs nm < fs.length) (hz : da.size ≤ 9223372036854775807) :
    Calls Try.prog 45 #[v, .agg #[.int .u8 0, .string nm, .string da, .int .i64 sz, .string to]] w fun e w' => ∃ v', e = .returned v' ∧ Own w' base v' (insF fs (lbN fs nm) ⟨nm, da, 0⟩) ∧ Below base w w' := by
  have HV := Lib.hid (ho.files hf (by omega))
  have h0 := find_miss v fs nm (w.alloc (.cells #[.int .u8 0, .string nm, .string da, .int .i64 sz, .string to] 53)) (HV.out.al _) h4 hok hn
  rw [World.size_alloc] at h0
  have hlb := lb_le fs nm hok
  have HO := Lib.hid ho
  have hne : some w.heap.size ≠ v.ownBlock := fun e => by have := (World.ownsRow.lt ho) _ e.symm; omega
  have HNE := Lib.hid hne
  have HI : Hid (∀ w1 : World, Below w.heap.size w w1 → Calls Try.prog 51 #[v, .int .i64 (lbN fs nm : Nat), .slice (some ⟨w1.heap.size, 0, none⟩) 1 1] (w1.alloc (.cells #[.string nm, .string ByteArray.empty, .int .i64 0] 46)) fun e w' => ∃ v', e = .returned v' ∧ Own w' base v' (insF fs (lbN fs nm) ⟨nm, ByteArray.empty, 0⟩) ∧ (w1.alloc (.cells #[.string nm, .string ByteArray.empty, .int .i64 0] 46)).grownBy w' v.ownBlock) := by
    intro w1 hb
    exact insert_any v fs ⟨nm, ByteArray.empty, 0⟩ (lbN fs nm) w1.heap.size base _ (by have := hb.size; simp; omega) ((HO.out.keep hb).keep ((Below.refl _ _).alloc (Nat.le_refl _) _)) h4 hlb (heap_alloc_new w1 _) (fun e => by have := (World.ownsRow.lt HO.out) _ e; have := hb.size; omega)
  have HB1 : Hid (∀ w1 w3 : World, Below w.heap.size w w1 → (w1.alloc (.cells #[.string nm, .string ByteArray.empty, .int .i64 0] 46)).grownBy w3 v.ownBlock → Below base w w3 ∧ (∀ o u, w1.cell? ⟨w.heap.size, o, none⟩ = some u → w3.cell? ⟨w.heap.size, o, none⟩ = some u)) := by
    intro w1 w3 hb hg
    refine ⟨below_grown hbs (hb.alloc hb.size _) hg HO.out, fun o u hu => ?_⟩
    exact hg.cell (Lib.cell?_alloc_some _ hu) HNE.out
  have hil := insF_len fs (lbN fs nm) ⟨nm, ByteArray.empty, 0⟩ hlb
  have hlt : lbN fs nm < (insF fs (lbN fs nm) ⟨nm, ByteArray.empty, 0⟩).length := by omega
  have hat : (insF fs (lbN fs nm) ⟨nm, ByteArray.empty, 0⟩)[lbN fs nm] = ⟨nm, ByteArray.empty, 0⟩ := by
    simp only [insF]
    rw [List.getElem_append_right (by rw [List.length_take]; omega)]
    simp [List.length_take, Nat.min_eq_left hlb]
  have hset : (insF fs (lbN fs nm) ⟨nm, ByteArray.empty, 0⟩).set (lbN fs nm) ⟨nm, da, 0⟩ = insF fs (lbN fs nm) ⟨nm, da, 0⟩ := by
    simp only [insF]
    rw [List.set_append_right _ _ (by rw [List.length_take]; omega)]
    simp [List.length_take, Nat.min_eq_left hlb]
  have HS : Hid (∀ (w3 : World) v', Below base w w3 → Own w3 base v' (insF fs (lbN fs nm) ⟨nm, ByteArray.empty, 0⟩) → ∃ g cap, v' = .slice (some ⟨g, 0, none⟩) (fs.length + 1) cap ∧ w3.cell? ⟨g, lbN fs nm * 3 + 1, none⟩ = some (.string ByteArray.empty) ∧ w3.frozen? ⟨g, lbN fs nm * 3 + 1, none⟩ = false ∧
      ∀ n, Own ((w3.drewN n).setCell ⟨g, lbN fs nm * 3 + 1, none⟩ (.string (ByteArray.empty ++ da))) base v' (insF fs (lbN fs nm) ⟨nm, da, 0⟩) ∧ Below base w ((w3.drewN n).setCell ⟨g, lbN fs nm * 3 + 1, none⟩ (.string (ByteArray.empty ++ da)))) := by
    intro w3 v' hb hown
    obtain ⟨g, cap, rfl, hbg, hgl, hc, hfr⟩ := hown.form (by omega)
    refine ⟨g, cap, by rw [hil], ?_, hfr _, fun n => ?_⟩
    · have := (hc _ hlt).2.1
      rw [hat] at this
      exact this
    · obtain ⟨h1, h2⟩ := (hown.drew n).set1 _ hlt (ByteArray.empty ++ da)
      refine ⟨?_, (bdN hb n).grown h2 (Nat.le_trans hbs hb.size) (fun k hk => by cases hk; exact hbg)⟩
      rw [hat] at h1
      simp only [ByteArray.empty_append] at h1 ⊢
      rw [hset] at h1
      exact h1
  have t1 : ((lbN fs nm : Nat) : Int) < ((fs.length + 1 : Nat) : Int) := by omega
  have t2 : (0 : Int) ≤ ((lbN fs nm : Nat) : Int) := by omega
  have t3 : ¬ (9223372036854775807 < ByteArray.empty.size + da.size) := by simp; omega
  have t4 : ((lbN fs nm : Nat) : Int) < (fs.length : Int) + 1 := by omega
  clear hok hn hne hf hat hset hlt hil hlb
  generalize insF fs (lbN fs nm) ⟨nm, ByteArray.empty, 0⟩ = fsA at *
  generalize insF fs (lbN fs nm) ⟨nm, da, 0⟩ = fsB at *
  generalize lbN fs nm = k at *
  rcases ho.forms with ⟨rfl, hfs⟩ | ⟨g, cap, rfl, hbg, hgl, hcap, hcm⟩
  · have HFS := Lib.hid hfs
    clear ho hfs
    go_enter Try.func45, Try.ntmps45
    go_wp2_with (go_at_call 41; refine h0.mono ?_; rintro e w1 ⟨rfl, hb⟩; obtain ⟨d0, d1, d2, d3, d4⟩ := boxC hb; have HB := Lib.hid (over hb); clear hb)
    go_wp2_with (go_at_call 51; refine (HI.out w1 HB.out).mono ?_; rintro e w3 ⟨v', rfl, hown, hgrow⟩; obtain ⟨b1, b2⟩ := HB1.out w1 w3 HB.out hgrow; obtain ⟨g3, cap3, rfl, s1, s2, s3⟩ := HS.out w3 v' b1 hown; have e2 := b2 _ _ d2; have H3 := Lib.hid s3; clear s3 b2 hgrow hown)
    go_region
    all_goals go_wp2
    all_goals go_ret
    all_goals exact ⟨_, rfl, by first | exact (H3.out 0).1 | exact (H3.out _).1, by first | exact (H3.out 0).2 | exact (H3.out _).2 | exact bdN (H3.out 0).2 _⟩
  · clear ho
    go_enter Try.func45, Try.ntmps45
    go_wp2_with (go_at_call 41; refine h0.mono ?_; rintro e w1 ⟨rfl, hb⟩; obtain ⟨d0, d1, d2, d3, d4⟩ := boxC hb; have HB := Lib.hid (over hb); clear hb)
    go_wp2_with (go_at_call 51; refine (HI.out w1 HB.out).mono ?_; rintro e w3 ⟨v', rfl, hown, hgrow⟩; obtain ⟨b1, b2⟩ := HB1.out w1 w3 HB.out hgrow; obtain ⟨g3, cap3, rfl, s1, s2, s3⟩ := HS.out w3 v' b1 hown; have e2 := b2 _ _ d2; have H3 := Lib.hid s3; clear s3 b2 hgrow hown)
    go_region
    all_goals go_wp2
    all_goals go_ret
    all_goals exact ⟨_, rfl, by first | exact (H3.out 0).1 | exact (H3.out _).1, by first | exact (H3.out 0).2 | exact (H3.out _).2 | exact bdN (H3.out 0).2 _⟩

set_option maxRecDepth 100000 in
set_option maxHeartbeats 4000000 in
theorem changed_cut (v : Value) (fs : List Fl) (nm da to : ByteArray) (sz : Nat) (base : Nat) (w : World) (hbs : base ≤ w.heap.size) (ho : Own w base v fs) (hf : Fine fs) (h4 : fs.length ≤ 4096) (hok : okTo fs fs.length = true) (hn : idxN fs nm < fs.length) (hz : sz ≤ fs[idxN fs nm].da.size) :
    Calls Try.prog 45 #[v, .agg #[.int .u8 2, .string nm, .string da, .int .i64 sz, .string to]] w fun e w' => ∃ v', e = .returned v' ∧ Own w' base v' (fs.set (idxN fs nm) ⟨fs[idxN fs nm].nm, fs[idxN fs nm].da.extract 0 sz, min fs[idxN fs nm].sy sz⟩) ∧ Below base w w' := by
  obtain ⟨g, cap, rfl, hbg, hgl, hc, hfr⟩ := ho.form (by omega)
  have HV := Lib.hid (ho.files hf (by omega))
  have h1 := find_hit (.slice (some ⟨g, 0, none⟩) fs.length cap) fs nm (w.alloc (.cells #[.int .u8 2, .string nm, .string da, .int .i64 sz, .string to] 53)) (HV.out.al _) h4 hok hn
  rw [World.size_alloc] at h1
  obtain ⟨-, c2, c3⟩ := hc _ hn
  have HC2 := Lib.hid c2
  have HC3 := Lib.hid c3
  have HO := Lib.hid ho
  have HFR := Lib.hid hfr
  have HE : Hid (∀ w1 : World, Below w.heap.size w w1 → Own ((w1.setCell ⟨g, idxN fs nm * 3 + 1, none⟩ (.string (fs[idxN fs nm].da.extract 0 sz))).setCell ⟨g, idxN fs nm * 3 + 2, none⟩ (.int .i64 (min fs[idxN fs nm].sy sz))) base (.slice (some ⟨g, 0, none⟩) fs.length cap) (fs.set (idxN fs nm) ⟨fs[idxN fs nm].nm, fs[idxN fs nm].da.extract 0 sz, min fs[idxN fs nm].sy sz⟩) ∧ Below base w ((w1.setCell ⟨g, idxN fs nm * 3 + 1, none⟩ (.string (fs[idxN fs nm].da.extract 0 sz))).setCell ⟨g, idxN fs nm * 3 + 2, none⟩ (.int .i64 (min fs[idxN fs nm].sy sz)))) := by
    intro w1 hb
    obtain ⟨h1, g1⟩ := (HO.out.keep hb).set1 (idxN fs nm) hn (fs[idxN fs nm].da.extract 0 sz)
    have e1 : (fs.set (idxN fs nm) { fs[idxN fs nm] with da := fs[idxN fs nm].da.extract 0 sz }).length = fs.length := List.length_set
    rw [← e1] at h1
    obtain ⟨h2, g2⟩ := h1.set2 (idxN fs nm) (by rw [e1]; exact hn) (min fs[idxN fs nm].sy sz)
    simp only [List.getElem_set_self, List.set_set] at h2
    rw [e1] at h2
    exact ⟨h2, (hb.mono hbs).grown (grown_two g1 g2) (Nat.le_trans hbs hb.size) (fun k hk => by cases hk; exact hbg)⟩
  have hzl : fs[idxN fs nm].da.size ≤ maxLen := (hf _ (List.getElem_mem hn)).1
  have t1 : ((idxN fs nm : Nat) : Int) < (fs.length : Int) := by omega
  have t2 : (0 : Int) ≤ ((idxN fs nm : Nat) : Int) := by omega
  have t3 : (sz : Int) ≤ (fs[idxN fs nm].da.size : Int) := by omega
  clear hok c2 c3 hc hfr ho hf
  generalize fs.set (idxN fs nm) ⟨fs[idxN fs nm].nm, fs[idxN fs nm].da.extract 0 sz, min fs[idxN fs nm].sy sz⟩ = fs2 at *
  generalize fs[idxN fs nm].da = y at *
  generalize fs[idxN fs nm].sy = z at *
  generalize idxN fs nm = k at *
  go_enter Try.func45, Try.ntmps45
  go_wp2_with (go_at_call 41; refine h1.mono ?_; rintro e w1 ⟨rfl, hb⟩; obtain ⟨d0, d1, d2, d3, d4⟩ := boxC hb; have HB := Lib.hid (over hb); have f2 := ((over hb).cell (by exact hgl)).trans HC2.out; have f3 := ((over hb).cell (by exact hgl)).trans HC3.out; have f4 := ((over hb).frozen (p := ⟨g, k * 3 + 1, none⟩) (by exact hgl)).trans (HFR.out _); have f5 := ((over hb).frozen (p := ⟨g, k * 3 + 2, none⟩) (by exact hgl)).trans (HFR.out _); clear hb)
  have hgn : g ≠ w.heap.size := by omega
  have hgn2 : w.heap.size ≠ g := by omega
  go_region
  all_goals go_wp2
  all_goals go_region
  all_goals go_wp2
  all_goals go_ret
  all_goals exact ⟨_, rfl, (HE.out _ HB.out).1, (fun h : Below base w _ => ⟨h.os, h.tape, h.output, h.size, h.block⟩) (HE.out _ HB.out).2⟩

set_option maxRecDepth 100000 in
set_option maxHeartbeats 4000000 in
theorem changed_swap (v : Value) (fs : List Fl) (nm da to : ByteArray) (sz : Int) (base : Nat) (w : World) (hbs : base ≤ w.heap.size) (ho : Own w base v fs) (hf : Fine fs) (h4 : fs.length ≤ 4096) (hok : okTo fs fs.length = true) (hn : idxN fs nm < fs.length)
    (hok2 : okTo (fs.eraseIdx (idxN fs nm)) (fs.eraseIdx (idxN fs nm)).length = true) :
    Calls Try.prog 45 #[v, .agg #[.int .u8 3, .string nm, .string da, .int .i64 sz, .string to]] w fun e w' => ∃ v', e = .returned v' ∧ Own w' base v' (putF (fs.eraseIdx (idxN fs nm)) ⟨to, fs[idxN fs nm].da, fs[idxN fs nm].sy⟩) ∧ Below base w w' := by
  have HV := Lib.hid (ho.files hf (by omega))
  have h1 := find_hit v fs nm (w.alloc (.cells #[.int .u8 3, .string nm, .string da, .int .i64 sz, .string to] 53)) (HV.out.al _) h4 hok hn
  rw [World.size_alloc] at h1
  have HO := Lib.hid ho
  have HD : Hid (∀ w1 : World, Below w.heap.size w w1 → Calls Try.prog 53 #[v, .int .i64 (idxN fs nm : Nat), .int .i64 ((idxN fs nm : Nat) + 1)] w1 fun e w' => ∃ v', e = .returned v' ∧ Own w' base v' (fs.eraseIdx (idxN fs nm)) ∧ Below base w w' ∧ w1.grownBy w' v.ownBlock) := by
    intro w1 hb
    refine (delete_own v fs (idxN fs nm) base w1 (HO.out.keep hb) h4 hn).mono ?_
    rintro e w' ⟨v', rfl, h1, h2⟩
    exact ⟨v', rfl, h1, below_grown hbs hb h2 HO.out, h2⟩
  have hel : (fs.eraseIdx (idxN fs nm)).length = fs.length - 1 := by rw [List.length_eraseIdx_of_lt hn]
  have hfe : Fine (fs.eraseIdx (idxN fs nm)) := fun f hm => hf f (List.mem_of_mem_eraseIdx hm)
  have HP : Hid (∀ (w1 : World) (v' : Value), base ≤ w1.heap.size → Own w1 base v' (fs.eraseIdx (idxN fs nm)) → Calls Try.prog 52 #[v', .agg #[.string to, .string fs[idxN fs nm].da, .int .i64 fs[idxN fs nm].sy]] w1 fun e w' => ∃ v', e = .returned v' ∧ Own w' base v' (putF (fs.eraseIdx (idxN fs nm)) ⟨to, fs[idxN fs nm].da, fs[idxN fs nm].sy⟩) ∧ Below base w1 w') := fun w1 v' hb h => put_own v' _ ⟨to, fs[idxN fs nm].da, fs[idxN fs nm].sy⟩ base w1 hb h hfe (by omega) hok2
  obtain ⟨g, cap, rfl, hbg, hgl, hc, -⟩ := ho.form (by omega)
  have t3 : IntKind.i64.wrap (((idxN fs nm : Nat) : Int) + 1) = ((idxN fs nm : Nat) : Int) + 1 := by rw [IntKind.wrap_i64]; omega
  obtain ⟨c1, c2, c3⟩ := hc _ hn
  have HC : Hid (∀ w1 : World, Below w.heap.size w w1 → w1.cell? ⟨g, idxN fs nm * 3, none⟩ = some (.string fs[idxN fs nm].nm) ∧ w1.cell? ⟨g, idxN fs nm * 3 + 1, none⟩ = some (.string fs[idxN fs nm].da) ∧ w1.cell? ⟨g, idxN fs nm * 3 + 2, none⟩ = some (.int .i64 fs[idxN fs nm].sy)) := fun w1 hb =>
    ⟨(hb.cell hgl).trans c1, (hb.cell hgl).trans c2, (hb.cell hgl).trans c3⟩
  have t1 : ((idxN fs nm : Nat) : Int) < (fs.length : Int) := by omega
  have t2 : (0 : Int) ≤ ((idxN fs nm : Nat) : Int) := by omega
  clear hok hf ho hok2 hel hfe c1 c2 c3 hc
  generalize putF (fs.eraseIdx (idxN fs nm)) ⟨to, fs[idxN fs nm].da, fs[idxN fs nm].sy⟩ = fsB at *
  generalize fs.eraseIdx (idxN fs nm) = fsA at *
  generalize fs[idxN fs nm] = f0 at *
  clear hn
  rcases f0 with ⟨n0, y0, z0⟩
  generalize idxN fs nm = k at *
  simp only at HP HC
  go_enter Try.func45, Try.ntmps45
  go_wp2_with (go_at_call 41; refine h1.mono ?_; rintro e w1 ⟨rfl, hb⟩; obtain ⟨d0, d1, d2, d3, d4⟩ := boxC hb; obtain ⟨f1, f2, f3⟩ := HC.out w1 (over hb); have hlt : w.heap.size < w1.heap.size := (by have := hb.size; simp at this; omega); have hgl1 : g < w1.heap.size := (by omega); have HB := Lib.hid (over hb); clear hb)
  have KD : ((w1.alloc (.cells #[.string to, .string y0, .int .i64 z0] 46)).drew.cell? ⟨w1.heap.size, 0, none⟩ = some (.string to) ∧ (w1.alloc (.cells #[.string to, .string y0, .int .i64 z0] 46)).drew.cell? ⟨w1.heap.size, 1, none⟩ = some (.string y0) ∧ (w1.alloc (.cells #[.string to, .string y0, .int .i64 z0] 46)).drew.cell? ⟨w1.heap.size, 2, none⟩ = some (.int .i64 z0)) := by
    refine ⟨?_, ?_, ?_⟩ <;> (show World.cell? (w1.alloc _) _ = _; simp [go_sem])
  have HDx : Hid (∀ x : World, x = (w1.alloc (.cells #[.string to, .string y0, .int .i64 z0] 46)).drew → Calls Try.prog 53 #[.slice (some ⟨g, 0, none⟩) fs.length cap, .int .i64 (k : Nat), .int .i64 ((k : Nat) + 1)] x fun e w' => ∃ v', e = .returned v' ∧ Own w' base v' fsA ∧ Below base w w' ∧ (w'.cell? ⟨w1.heap.size, 0, none⟩ = some (.string to) ∧ w'.cell? ⟨w1.heap.size, 1, none⟩ = some (.string y0) ∧ w'.cell? ⟨w1.heap.size, 2, none⟩ = some (.int .i64 z0))) := by
    intro x hx
    have hb : Below w.heap.size w x := by
      rw [hx]
      have h := HB.out.alloc (Nat.le_of_lt hlt) (.cells #[.string to, .string y0, .int .i64 z0] 46)
      exact ⟨h.os, h.tape, h.output, h.size, h.block⟩
    refine (HD.out x hb).mono ?_
    rintro e w' ⟨v', rfl, h1, h2, h3⟩
    have hng : some w1.heap.size ≠ (Value.slice (some ⟨g, 0, none⟩) fs.length cap).ownBlock := by
      intro e
      have : w1.heap.size = g := Option.some.inj e
      omega
    obtain ⟨q0, q1, q2⟩ := KD
    rw [← hx] at q0 q1 q2
    exact ⟨v', rfl, h1, h2, h3.cell q0 hng, h3.cell q1 hng, h3.cell q2 hng⟩
  have KDh := Lib.hid KD
  clear KD HD HC
  obtain ⟨l0, l1, l2⟩ := KDh.out
  go_region_with (first
      | (go_at_call 53; go_loud (refine (HDx.out _ rfl).mono ?_; rintro e w3 ⟨v3, rfl, hown, hb3, q0, q1, q2⟩; obtain ⟨a3, c3, rfl⟩ := hown.slice; have HO3 := Lib.hid hown; have HB3 := Lib.hid hb3; clear hown hb3))
      | (go_at_call 52; go_loud (refine (HP.out _ _ (Nat.le_trans hbs HB3.out.size) HO3.out).mono ?_; rintro e w4 ⟨v4, rfl, hown, hb4⟩; obtain ⟨a4, c4, rfl⟩ := hown.slice; have HO4 := Lib.hid hown; have HB4 := Lib.hid (HB3.out.trans hb4); clear hown hb4)))
  all_goals go_wp2
  all_goals go_ret
  all_goals exact ⟨_, rfl, HO4.out, HB4.out⟩
end Dk
end Go.Proofs.Ytohhiheebhcgeaa
