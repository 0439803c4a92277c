/-
  A FILE PUT LAST: slices.Insert at the end; disk.changed at Add where the file was not there and comes last.
-/
import Derived.Test.YtjgdmdgiicpemaaDiskChanged
namespace Go.Proofs.Ytjgdmdgiicpemaa
open Go.RowKit Go.Lib Go.Sort
namespace Dk

theorem encF_len (f : Fl) : (encF f).length = 1 * 3 := rfl
theorem encF_one (f : Fl) : ∀ u ∈ encF f, u.oneCell' = true := by
  intro u hu
  have : encF f = flat [f] := by simp [flat]
  rw [this] at hu
  exact flat_one [f] u hu
theorem Own.forms {w : World} {base : Nat} {v : Value} {fs : List Fl} (h : Own w base v fs) : (v = .slice none 0 0 ∧ fs = []) ∨ ∃ g cap, v = .slice (some ⟨g, 0, none⟩) fs.length cap ∧ base ≤ g ∧ g < w.heap.size ∧ fs.length ≤ cap ∧ cap ≤ maxLen := by
  rcases h.2 with ⟨h1, h0⟩ | ⟨g, cap, cur, rfl, hb, hg, h1, h2, h3, h4⟩
  · exact .inl ⟨h1, List.eq_nil_of_length_eq_zero h0⟩
  · exact .inr ⟨g, cap, rfl, hb, (Array.getElem?_eq_some_iff.1 hg).1, h1, h2⟩

set_option maxRecDepth 100000 in
set_option maxHeartbeats 2000000 in
theorem insert_end (v : Value) (fs : List Fl) (f : Fl) (g2 : Nat) (base : Nat) (w : World) (hbs : base ≤ w.heap.size) (ho : Own w base v fs) (h4 : fs.length ≤ 4096)
    (hg : ∀ j u, (encF f)[j]? = some u → w.cell? ⟨g2, j, none⟩ = some u) :
    Calls Try.prog 65 #[v, .int .i64 fs.length, .slice (some ⟨g2, 0, none⟩) 1 1] w fun e w' => ∃ v', e = .returned v' ∧ Own w' base v' (fs ++ [f]) ∧ w.grownBy w' v.ownBlock := by
  have HG : Hid (∀ j u, (encF f)[j]? = some u → w.cell? ((⟨g2, 0, none⟩ : Addr).add j) = some u) := by
    intro j u hu
    rw [Addr.add_lit, Nat.zero_add]
    exact hg j u hu
  have HL := Lib.hid (encF_len f)
  have H1 := Lib.hid (encF_one f)
  obtain ⟨i0, hi, hz0, hz1, hz2⟩ := info_parts info_file
  have HE : Hid (∀ w' v', w'.ownsRow base 55 3 v' (fs.length + 1) (flat fs ++ encF f) → Own w' base v' (fs ++ [f])) := by
    intro w' v' h
    unfold Own
    rw [flat_app, List.length_append]
    simpa [flat] using h
  have hmx : fs.length + 1 ≤ maxLen := by simp only [maxLen]; omega
  have HM := Lib.hid hmx
  have HO := Lib.hid ho
  have HX : Hid (flat fs = flat fs) := rfl
  clear hg hmx
  rcases ho.forms with ⟨rfl, rfl⟩ | ⟨g, cap, rfl, hbg, hgl, hcap, hcm⟩
  · clear ho
    go_enter Try.func65, Try.ntmps65
    go_wp2_with (at_builtin; refine wpList_append_own _ rfl _ _ 25 rfl base 55 i0 _ 3 40 Try.underlying25 hi hz0 hz1 hz2 rfl (by omega) (.slice none 0 0) 0 [] rfl (World.ownsRow_nil _ _ _ _) ⟨g2, 0, none⟩ 1 1 (encF f) rfl HL.out HG.out H1.out (by simp [maxLen]) (by omega) hbs ?_; intro v' w1 hown hgrow hnil)
    go_ret
    exact ⟨v', rfl, HE.out _ _ (by simpa [flat] using hown), hgrow⟩
  · generalize hx : flat fs = xs at *
    have hox : w.ownsRow base 55 3 (.slice (some ⟨g, 0, none⟩) fs.length cap) fs.length xs := by rw [← hx]; exact ho
    have HOX := Lib.hid hox
    clear ho hox hx
    have t1 : (fs.length : Int) ≤ (cap : Int) := by omega
    go_enter Try.func65, Try.ntmps65
    go_wp2_with (at_builtin; refine wpList_append_own _ rfl _ _ 25 rfl base 55 i0 _ 3 40 Try.underlying25 hi hz0 hz1 hz2 rfl (by omega) (.slice (some ⟨g, 0, none⟩) fs.length cap) fs.length xs rfl HOX.out ⟨g2, 0, none⟩ 1 1 (encF f) rfl HL.out HG.out H1.out HM.out (by omega) hbs ?_; intro v' w1 hown hgrow hnil)
    all_goals go_ret
    all_goals exact ⟨v', rfl, HE.out _ _ hown, hgrow⟩

set_option maxRecDepth 100000 in
set_option maxHeartbeats 2000000 in
theorem changed_add_end (v : Value) (fs : List Fl) (nm da to : ByteArray) (sz : Int) (base : Nat) (w : World) (hbs : base ≤ w.heap.size) (ho : Own w base v fs) (hf : Fine fs) (h4 : fs.length ≤ 4096) (hok : okTo fs fs.length = true) (hn : ¬ idxN fs nm < fs.length) (hlast : lbN fs nm = fs.length) (hz : da.size ≤ 9223372036854775807) :
    Calls Try.prog 46 #[v, .agg #[.int .u8 0, .string nm, .string da, .int .i64 sz, .string to]] w fun e w' => ∃ v', e = .returned v' ∧ Own w' base v' (fs ++ [⟨nm, da, 0⟩]) ∧ Below base w w' := by
  have HV := Lib.hid (ho.files hf (by omega))
  have h0 := find_miss v fs nm (w.alloc (.cells #[.int .u8 0, .string nm, .string da, .int .i64 sz, .string to] 66)) (HV.out.al _) h4 hok hn
  rw [World.size_alloc, hlast] at h0
  have HO := Lib.hid ho
  have hne : some w.heap.size ≠ v.ownBlock := fun e => by have := (World.ownsRow.lt ho) _ e.symm; omega
  have HNE := Lib.hid hne
  have HI : Hid (∀ w1 : World, Below w.heap.size w w1 → Calls Try.prog 65 #[v, .int .i64 fs.length, .slice (some ⟨w1.heap.size, 0, none⟩) 1 1] (w1.alloc (.cells #[.string nm, .string ByteArray.empty, .int .i64 0] 55)) fun e w' => ∃ v', e = .returned v' ∧ Own w' base v' (fs ++ [⟨nm, ByteArray.empty, 0⟩]) ∧ (w1.alloc (.cells #[.string nm, .string ByteArray.empty, .int .i64 0] 55)).grownBy w' v.ownBlock) := by
    intro w1 hb
    refine insert_end v fs ⟨nm, ByteArray.empty, 0⟩ w1.heap.size base _ (by have := hb.size; simp; omega) ((HO.out.keep hb).keep ((Below.refl _ _).alloc (Nat.le_refl _) _)) h4 ?_
    intro j u hu
    rw [World.cell?_alloc_at _ _ _ _ (by simp)]
    match j, hu with
    | 0, hu => simpa [encF] using hu
    | 1, hu => simpa [encF] using hu
    | 2, hu => simpa [encF] using hu
    | j + 3, hu => simp [encF] at hu
  have HB1 : Hid (∀ w1 w3 : World, Below w.heap.size w w1 → (w1.alloc (.cells #[.string nm, .string ByteArray.empty, .int .i64 0] 55)).grownBy w3 v.ownBlock → Below base w w3 ∧ (∀ o u, w1.cell? ⟨w.heap.size, o, none⟩ = some u → w3.cell? ⟨w.heap.size, o, none⟩ = some u)) := by
    intro w1 w3 hb hg
    refine ⟨((hb.mono hbs).alloc (Nat.le_trans hbs hb.size) _).grown hg (by have := hb.size; simp; omega) (fun k hk => ((World.ownsRow.lt HO.out) k hk).1), fun o u hu => ?_⟩
    exact hg.cell (Lib.cell?_alloc_some _ hu) HNE.out
  have HS : Hid (∀ (w3 : World) v', Below base w w3 → Own w3 base v' (fs ++ [⟨nm, ByteArray.empty, 0⟩]) → ∃ g cap, v' = .slice (some ⟨g, 0, none⟩) (fs.length + 1) cap ∧ w3.cell? ⟨g, fs.length * 3 + 1, none⟩ = some (.string ByteArray.empty) ∧ w3.frozen? ⟨g, fs.length * 3 + 1, none⟩ = false ∧
      ∀ n, Own ((w3.drewN n).setCell ⟨g, fs.length * 3 + 1, none⟩ (.string (ByteArray.empty ++ da))) base v' (fs ++ [⟨nm, da, 0⟩]) ∧ Below base w ((w3.drewN n).setCell ⟨g, fs.length * 3 + 1, none⟩ (.string (ByteArray.empty ++ da)))) := by
    intro w3 v' hb hown
    obtain ⟨g, cap, rfl, hbg, hgl, hc, hfr⟩ := hown.form (by simp)
    have hlt : fs.length < (fs ++ [(⟨nm, ByteArray.empty, 0⟩ : Fl)]).length := by simp
    refine ⟨g, cap, by simp, ?_, hfr _, fun n => ?_⟩
    · have := (hc fs.length hlt).2.1
      simpa using this
    · obtain ⟨h1, h2⟩ := (hown.drew n).set1 fs.length hlt (ByteArray.empty ++ da)
      refine ⟨?_, (bdN hb n).grown h2 (Nat.le_trans hbs hb.size) (fun k hk => by cases hk; exact hbg)⟩
      have e : (fs ++ [(⟨nm, ByteArray.empty, 0⟩ : Fl)]).set fs.length { (fs ++ [(⟨nm, ByteArray.empty, 0⟩ : Fl)])[fs.length] with da := ByteArray.empty ++ da } = fs ++ [⟨nm, da, 0⟩] := by
        simp
      rw [e] at h1
      have e2 : (fs ++ [(⟨nm, ByteArray.empty, 0⟩ : Fl)]).length = fs.length + 1 := by simp
      exact h1
  have t1 : (fs.length : Int) < ((fs.length + 1 : Nat) : Int) := by omega
  have t2 : (0 : Int) ≤ (fs.length : Int) := by omega
  have t3 : ¬ (9223372036854775807 < ByteArray.empty.size + da.size) := by simp; omega
  have t4 : (fs.length : Int) < (fs.length : Int) + 1 := by omega
  clear hok hn hlast hne hf
  rcases ho.forms with ⟨rfl, hfs⟩ | ⟨g, cap, rfl, hbg, hgl, hcap, hcm⟩
  · have HFS := Lib.hid hfs
    clear ho hfs
    go_enter Try.func46, Try.ntmps46
    go_wp2_with (go_at_call 25; refine h0.mono ?_; rintro e w1 ⟨rfl, hb⟩; obtain ⟨d0, d1, d2, d3, d4⟩ := boxC hb; have HB := Lib.hid (over hb); clear hb)
    go_wp2_with (go_at_call 65; refine (HI.out w1 HB.out).mono ?_; rintro e w3 ⟨v', rfl, hown, hgrow⟩; obtain ⟨b1, b2⟩ := HB1.out w1 w3 HB.out hgrow; obtain ⟨g3, cap3, rfl, s1, s2, s3⟩ := HS.out w3 v' b1 hown; have e2 := b2 _ _ d2; have H3 := Lib.hid s3; clear s3 b2 hgrow hown)
    go_region
    all_goals go_wp2
    all_goals go_ret
    all_goals exact ⟨_, rfl, by first | exact (H3.out 0).1 | exact (H3.out _).1, by first | exact (H3.out 0).2 | exact (H3.out _).2 | exact bdN (H3.out 0).2 _⟩
  · clear ho
    go_enter Try.func46, Try.ntmps46
    go_wp2_with (go_at_call 25; refine h0.mono ?_; rintro e w1 ⟨rfl, hb⟩; obtain ⟨d0, d1, d2, d3, d4⟩ := boxC hb; have HB := Lib.hid (over hb); clear hb)
    go_wp2_with (go_at_call 65; refine (HI.out w1 HB.out).mono ?_; rintro e w3 ⟨v', rfl, hown, hgrow⟩; obtain ⟨b1, b2⟩ := HB1.out w1 w3 HB.out hgrow; obtain ⟨g3, cap3, rfl, s1, s2, s3⟩ := HS.out w3 v' b1 hown; have e2 := b2 _ _ d2; have H3 := Lib.hid s3; clear s3 b2 hgrow hown)
    go_region
    all_goals go_wp2
    all_goals go_ret
    all_goals exact ⟨_, rfl, by first | exact (H3.out 0).1 | exact (H3.out _).1, by first | exact (H3.out 0).2 | exact (H3.out _).2 | exact bdN (H3.out 0).2 _⟩
end Dk
end Go.Proofs.Ytjgdmdgiicpemaa
