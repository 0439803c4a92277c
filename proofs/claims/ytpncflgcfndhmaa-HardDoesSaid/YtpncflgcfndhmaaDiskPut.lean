/-
  disk.put; disk.changed at Drop, Swap, and Add wherever the file is to stand.
-/
import Derived.Test.YtpncflgcfndhmaaDiskDel
import Derived.Test.YtpncflgcfndhmaaDiskCr
import Derived.Deep.RegionHeld3
namespace Go.Proofs.Ytpncflgcfndhmaa
open Go.RowKit Go.Lib Go.Sort
namespace Dk
theorem flat_set0 (fs : List Fl) : ∀ i (h : i < fs.length) (s : ByteArray), (flat fs).set (i * 3) (.string s) = flat (fs.set i { fs[i] with nm := s }) := by
  induction fs with
  | nil => intro i h; simp at h
  | cons f r ih =>
    intro i h s
    cases i with
    | zero => simp [flat, encF]
    | succ i =>
      have := ih i (by simpa using h) s
      have e1 : (i + 1) * 3 = (i * 3) + 3 := by omega
      simp only [flat, encF, e1, List.cons_append, List.nil_append, List.set_cons_succ, List.getElem_cons_succ]
      rw [this]
theorem Own.set0 {w : World} {base g cap : Nat} {fs : List Fl} (h : Own w base (.slice (some ⟨g, 0, none⟩) fs.length cap) fs) (i : Nat) (hi : i < fs.length) (s : ByteArray) :
    Own (w.setCell ⟨g, i * 3, none⟩ (.string s)) base (.slice (some ⟨g, 0, none⟩) fs.length cap) (fs.set i { fs[i] with nm := s }) ∧ w.grownBy (w.setCell ⟨g, i * 3, none⟩ (.string s)) (some g) := by
  obtain ⟨h1, h2⟩ := World.ownsRow.stored h (i * 3) (.string s)
  refine ⟨?_, h2⟩
  unfold Own
  rw [List.length_set, ← flat_set0 fs i hi s]
  exact h1
theorem grown_two {w w1 w2 : World} {g : Nat} (h1 : w.grownBy w1 (some g)) (h2 : w1.grownBy w2 (some g)) : w.grownBy w2 (some g) :=
  ⟨h2.os.trans h1.os, h2.tape.trans h1.tape, h2.output.trans h1.output, Nat.le_trans h1.size h2.size, fun k hk hne => (h2.block k (Nat.lt_of_lt_of_le hk h1.size) hne).trans (h1.block k hk hne)⟩
/-- A whole file stored into its place. -/
theorem Own.setF {w : World} {base g cap : Nat} {fs : List Fl} (h : Own w base (.slice (some ⟨g, 0, none⟩) fs.length cap) fs) (i : Nat) (hi : i < fs.length) (f : Fl) :
    Own (((w.setCell ⟨g, i * 3, none⟩ (.string f.nm)).setCell ⟨g, i * 3 + 1, none⟩ (.string f.da)).setCell ⟨g, i * 3 + 2, none⟩ (.int .i64 f.sy)) base (.slice (some ⟨g, 0, none⟩) fs.length cap) (fs.set i f) ∧
      w.grownBy (((w.setCell ⟨g, i * 3, none⟩ (.string f.nm)).setCell ⟨g, i * 3 + 1, none⟩ (.string f.da)).setCell ⟨g, i * 3 + 2, none⟩ (.int .i64 f.sy)) (some g) := by
  obtain ⟨h1, g1⟩ := h.set0 i hi f.nm
  have e1 : (fs.set i { fs[i] with nm := f.nm }).length = fs.length := List.length_set
  rw [← e1] at h1
  obtain ⟨h2, g2⟩ := h1.set1 i (by rw [e1]; exact hi) f.da
  simp only [List.getElem_set_self, List.set_set] at h2
  have e2 : (fs.set i { fs[i] with nm := f.nm, da := f.da }).length = fs.length := List.length_set
  rw [e1, ← e2] at h2
  obtain ⟨h3, g3⟩ := h2.set2 i (by rw [e2]; exact hi) f.sy
  simp only [List.getElem_set_self, List.set_set] at h3
  rw [e2] at h3
  exact ⟨h3, grown_two (grown_two g1 g2) g3⟩
theorem below_grown {w w1 w2 : World} {base : Nat} {v : Value} {fs : List Fl} {w0 : World} (hbs : base ≤ w.heap.size) (hb : Below w.heap.size w w1) (hg : w1.grownBy w2 v.ownBlock) (ho : Own w0 base v fs) : Below base w w2 :=
  (hb.mono hbs).grown hg (Nat.le_trans hbs hb.size) (fun k hk => ((World.ownsRow.lt ho) k hk).1)

/-- fs with f in its place, or put in anew. -/
def putF (fs : List Fl) (f : Fl) : List Fl := if idxN fs f.nm < fs.length then fs.set (idxN fs f.nm) f else insF fs (lbN fs f.nm) f
theorem lb_le (fs : List Fl) (nm : ByteArray) (h : okTo fs fs.length = true) : lbN fs nm ≤ fs.length := (lb_spec fs nm h).1

set_option maxRecDepth 100000 in
set_option maxHeartbeats 4000000 in
theorem put_own (v : Value) (fs : List Fl) (f : Fl) (base : Nat) (w : World) (hbs : base ≤ w.heap.size) (ho : Own w base v fs) (hf : Fine fs) (h4 : fs.length ≤ 4096) (hok : okTo fs fs.length = true) :
    Calls Try.prog 81 #[v, .agg #[.string f.nm, .string f.da, .int .i64 f.sy]] w fun e w' => ∃ v', e = .returned v' ∧ Own w' base v' (putF fs f) ∧ Below base w w' := by
  have HV := Lib.hid (ho.files hf (by omega))
  have HO := Lib.hid ho
  have HBX : Hid (∀ w1, Below (w.heap.size + 1) (w.alloc (.cells #[.string f.nm, .string f.da, .int .i64 f.sy] 59)) w1 → w1.cell? ⟨w.heap.size, 0, none⟩ = some (.string f.nm) ∧ w1.cell? ⟨w.heap.size, 1, none⟩ = some (.string f.da) ∧ w1.cell? ⟨w.heap.size, 2, none⟩ = some (.int .i64 f.sy)) := by
    intro w1 hb
    exact ⟨by rw [hb.cell (by simp)]; simp [go_sem], by rw [hb.cell (by simp)]; simp [go_sem], by rw [hb.cell (by simp)]; simp [go_sem]⟩
  unfold putF
  by_cases hn : idxN fs f.nm < fs.length
  · have h1 := find_hit v fs f.nm (w.alloc (.cells #[.string f.nm, .string f.da, .int .i64 f.sy] 59)) (HV.out.al _) h4 hok hn
    rw [World.size_alloc] at h1
    rw [if_pos hn]
    obtain ⟨g, cap, rfl, hbg, hgl, hc, hfr⟩ := ho.form (by omega)
    have HE : Hid (∀ w1 : World, Below w.heap.size w w1 → Own (((w1.setCell ⟨g, idxN fs f.nm * 3, none⟩ (.string f.nm)).setCell ⟨g, idxN fs f.nm * 3 + 1, none⟩ (.string f.da)).setCell ⟨g, idxN fs f.nm * 3 + 2, none⟩ (.int .i64 f.sy)) base (.slice (some ⟨g, 0, none⟩) fs.length cap) (fs.set (idxN fs f.nm) f) ∧ Below base w (((w1.setCell ⟨g, idxN fs f.nm * 3, none⟩ (.string f.nm)).setCell ⟨g, idxN fs f.nm * 3 + 1, none⟩ (.string f.da)).setCell ⟨g, idxN fs f.nm * 3 + 2, none⟩ (.int .i64 f.sy))) := by
      intro w1 hb
      obtain ⟨h1, h2⟩ := (HO.out.keep hb).setF (idxN fs f.nm) hn f
      exact ⟨h1, (hb.mono hbs).grown h2 (Nat.le_trans hbs hb.size) (fun k hk => by cases hk; exact hbg)⟩
    obtain ⟨c1, c2, c3⟩ := hc _ hn
    have HC : Hid (∀ w1 : World, Below w.heap.size w w1 → w1.cell? ⟨g, idxN fs f.nm * 3, none⟩ = some (.string fs[idxN fs f.nm].nm) ∧ w1.cell? ⟨g, idxN fs f.nm * 3 + 1, none⟩ = some (.string fs[idxN fs f.nm].da) ∧ w1.cell? ⟨g, idxN fs f.nm * 3 + 2, none⟩ = some (.int .i64 fs[idxN fs f.nm].sy) ∧ w1.frozen? ⟨g, idxN fs f.nm * 3, none⟩ = false ∧ w1.frozen? ⟨g, idxN fs f.nm * 3 + 1, none⟩ = false ∧ w1.frozen? ⟨g, idxN fs f.nm * 3 + 2, none⟩ = false) := fun w1 hb =>
      ⟨(hb.cell hgl).trans c1, (hb.cell hgl).trans c2, (hb.cell hgl).trans c3, (hb.frozen (p := ⟨g, _, none⟩) hgl).trans (hfr _), (hb.frozen (p := ⟨g, _, none⟩) hgl).trans (hfr _), (hb.frozen (p := ⟨g, _, none⟩) hgl).trans (hfr _)⟩
    have t1 : ((idxN fs f.nm : Nat) : Int) < (fs.length : Int) := by omega
    have t2 : (0 : Int) ≤ ((idxN fs f.nm : Nat) : Int) := by omega
    clear hok c1 c2 c3 hc hfr ho hf
    generalize fs.set (idxN fs f.nm) f = fs2 at *
    generalize fs[idxN fs f.nm] = f0 at *
    generalize idxN fs f.nm = k at *
    go_enter Try.func81, Try.ntmps81
    go_wp2_with (go_at_call 33; refine h1.mono ?_; rintro e w1 ⟨rfl, hb⟩; obtain ⟨d0, d1, d2⟩ := HBX.out w1 hb; obtain ⟨f1, f2, f3, f4, f5, f6⟩ := HC.out w1 (over hb); have HB := Lib.hid (over hb); clear hb)
    go_ret
    exact ⟨_, rfl, (HE.out _ HB.out).1, (HE.out _ HB.out).2⟩
  · have h1 := find_miss v fs f.nm (w.alloc (.cells #[.string f.nm, .string f.da, .int .i64 f.sy] 59)) (HV.out.al _) h4 hok hn
    rw [World.size_alloc] at h1
    rw [if_neg hn]
    have hlb := lb_le fs f.nm hok
    have HI : Hid (∀ w1 : World, Below w.heap.size w w1 → Calls Try.prog 80 #[v, .int .i64 (lbN fs f.nm : Nat), .slice (some ⟨w1.heap.size, 0, none⟩) 1 1] (w1.alloc (.cells #[.string f.nm, .string f.da, .int .i64 f.sy] 59)) fun e w' => ∃ v', e = .returned v' ∧ Own w' base v' (insF fs (lbN fs f.nm) f) ∧ Below base w w') := by
      intro w1 hb
      refine (insert_any v fs f (lbN fs f.nm) w1.heap.size base _ (by have := hb.size; simp; omega) ((HO.out.keep hb).keep ((Below.refl _ _).alloc (Nat.le_refl _) _)) h4 hlb (heap_alloc_new w1 _) (fun e => by have := (World.ownsRow.lt HO.out) _ e; have := hb.size; omega)).mono ?_
      rintro e w' ⟨v', rfl, h1, h2⟩
      exact ⟨v', rfl, h1, below_grown hbs (hb.alloc hb.size _) h2 HO.out⟩
    clear hok hn hf hlb
    generalize insF fs (lbN fs f.nm) f = fs2 at *
    generalize lbN fs f.nm = k at *
    rcases ho.forms with ⟨rfl, hfs⟩ | ⟨g, cap, rfl, hbg, hgl, hcap, hcm⟩
    · clear ho hfs
      go_enter Try.func81, Try.ntmps81
      go_wp2_with (go_at_call 33; refine h1.mono ?_; rintro e w1 ⟨rfl, hb⟩; obtain ⟨d0, d1, d2⟩ := HBX.out w1 hb; have HB := Lib.hid (over hb); clear hb)
      go_wp2_with (go_at_call 80; refine (HI.out w1 HB.out).mono ?_; rintro e w3 ⟨v', rfl, hown, hgrow⟩; obtain ⟨a5, c5, rfl⟩ := hown.slice; have HO3 := Lib.hid hown; have HB3 := Lib.hid hgrow; clear hown hgrow)
      go_ret
      exact ⟨_, rfl, HO3.out, HB3.out⟩
    · clear ho
      go_enter Try.func81, Try.ntmps81
      go_wp2_with (go_at_call 33; refine h1.mono ?_; rintro e w1 ⟨rfl, hb⟩; obtain ⟨d0, d1, d2⟩ := HBX.out w1 hb; have HB := Lib.hid (over hb); clear hb)
      go_wp2_with (go_at_call 80; refine (HI.out w1 HB.out).mono ?_; rintro e w3 ⟨v', rfl, hown, hgrow⟩; obtain ⟨a5, c5, rfl⟩ := hown.slice; have HO3 := Lib.hid hown; have HB3 := Lib.hid hgrow; clear hown hgrow)
      go_ret
      exact ⟨_, rfl, HO3.out, HB3.out⟩

set_option maxRecDepth 100000 in
set_option maxHeartbeats 4000000 in
theorem changed_drop (v : Value) (fs : List Fl) (nm da to : ByteArray) (sz : Int) (base : Nat) (w : World) (hbs : base ≤ w.heap.size) (ho : Own w base v fs) (hf : Fine fs) (h4 : fs.length ≤ 4096) (hok : okTo fs fs.length = true) (hn : idxN fs nm < fs.length) :
    Calls Try.prog 76 #[v, .agg #[.int .u8 4, .string nm, .string da, .int .i64 sz, .string to]] w fun e w' => ∃ v', e = .returned v' ∧ Own w' base v' (fs.eraseIdx (idxN fs nm)) ∧ Below base w w' := by
  have HV := Lib.hid (ho.files hf (by omega))
  have h1 := find_hit v fs nm (w.alloc (.cells #[.int .u8 4, .string nm, .string da, .int .i64 sz, .string to] 87)) (HV.out.al _) h4 hok hn
  rw [World.size_alloc] at h1
  have HO := Lib.hid ho
  have HD : Hid (∀ w1 : World, Below w.heap.size w w1 → Calls Try.prog 82 #[v, .int .i64 (idxN fs nm : Nat), .int .i64 ((idxN fs nm : Nat) + 1)] w1 fun e w' => ∃ v', e = .returned v' ∧ Own w' base v' (fs.eraseIdx (idxN fs nm)) ∧ Below base w w') := by
    intro w1 hb
    refine (delete_own v fs (idxN fs nm) base w1 (HO.out.keep hb) h4 hn).mono ?_
    rintro e w' ⟨v', rfl, h1, h2⟩
    exact ⟨v', rfl, h1, below_grown hbs hb h2 HO.out⟩
  obtain ⟨g, cap, rfl, -⟩ := ho.form (by omega)
  have t3 : IntKind.i64.wrap (((idxN fs nm : Nat) : Int) + 1) = ((idxN fs nm : Nat) : Int) + 1 := by rw [IntKind.wrap_i64]; omega
  clear hok hn hf ho
  generalize fs.eraseIdx (idxN fs nm) = fs2 at *
  generalize idxN fs nm = k at *
  go_enter Try.func76, Try.ntmps76
  go_wp2_with (go_at_call 33; refine h1.mono ?_; rintro e w1 ⟨rfl, hb⟩; obtain ⟨d0, d1, d2, d3, d4⟩ := boxC hb; have HB := Lib.hid (over hb); clear hb)
  go_wp2_with (go_at_call 82; go_loud (refine (HD.out w1 HB.out).mono ?_; rintro e w3 ⟨v', rfl, hown, hgrow⟩; obtain ⟨a5, c5, rfl⟩ := hown.slice; have HO3 := Lib.hid hown; have HB3 := Lib.hid hgrow; clear hown hgrow))
  go_ret
  exact ⟨_, rfl, HO3.out, HB3.out⟩
end Dk
end Go.Proofs.Ytpncflgcfndhmaa
