/-
  The document's with and without, of a sorted list of files.
-/
import Derived.Test.YtohhiheebhcgeaaDiskRf3
namespace Go.Proofs.Ytohhiheebhcgeaa
open Go.RowKit Go.Lib Go.Sort
namespace Dk
theorem nm_ne {a b : ByteArray} (h : a ≠ b) : (a.toList == b.toList) = false := by
  cases hb : a.toList == b.toList with
  | false => rfl
  | true => exact absurd (toList_inj (by simpa using hb)) h
theorem wth_lo {fs : List Fl} (h : okTo fs fs.length = true) (f : Fl) : ∀ k, k ≤ lbN fs f.nm → wthT fs f k = (fs.take k, false)
  | 0, _ => by simp [wthT]
  | k + 1, hk => by
    have hle := lb_le fs f.nm h
    have hl : k < fs.length := by omega
    have h1 : Lt fs[k] f := (lb_spec fs f.nm h).2.1 k hl (by omega)
    rw [wthT_next fs f k hl, wth_lo h f k (by omega)]
    have h2 := nm_ne h1.ne
    unfold Lt at h1
    simp only [wthS, h1, h2, Bool.not_true, Bool.and_false, Bool.false_eq_true, if_false, Bool.or_false]
    rw [List.take_add_one, List.getElem?_eq_getElem hl]
    rfl
theorem wth_hi {fs : List Fl} (h : okTo fs fs.length = true) (f : Fl) : ∀ d, lbN fs f.nm + d + 1 ≤ fs.length → wthT fs f (lbN fs f.nm + d + 1) = (fs.take (lbN fs f.nm) ++ f :: ((fs.drop (lbN fs f.nm)).take (d + 1)).filter (fun x => !(x.nm.toList == f.nm.toList)), true)
  | 0, hd => by
    have hl : lbN fs f.nm < fs.length := by omega
    have h1 := (lb_spec fs f.nm h).2.2 (lbN fs f.nm) hl (Nat.le_refl _)
    rw [Nat.add_zero, wthT_next fs f _ hl, wth_lo h f _ (Nat.le_refl _)]
    have e : (fs.drop (lbN fs f.nm)).take (0 + 1) = [fs[lbN fs f.nm]] := by
      rw [List.drop_eq_getElem_cons hl]; rfl
    rw [e]
    simp only [wthS, h1]
    cases hq : (fs[lbN fs f.nm].nm.toList == f.nm.toList) <;> simp [hq]
  | d + 1, hd => by
    have hl : lbN fs f.nm + d + 1 < fs.length := by omega
    rw [show lbN fs f.nm + (d + 1) + 1 = (lbN fs f.nm + d + 1) + 1 by omega, wthT_next fs f _ hl, wth_hi h f d (by omega)]
    have e : (fs.drop (lbN fs f.nm)).take (d + 1 + 1) = (fs.drop (lbN fs f.nm)).take (d + 1) ++ [fs[lbN fs f.nm + d + 1]] := by
      rw [List.take_add_one, List.getElem?_drop, show lbN fs f.nm + (d + 1) = lbN fs f.nm + d + 1 by omega, List.getElem?_eq_getElem hl]
      rfl
    rw [e, List.filter_append]
    simp only [wthS]
    cases hq : (fs[lbN fs f.nm + d + 1].nm.toList == f.nm.toList) <;> simp [hq]
theorem wthF_put {fs : List Fl} (h : okTo fs fs.length = true) (f : Fl) : wthF fs f = putF fs f := by
  have hle := lb_le fs f.nm h
  have hs := ok_srt h
  unfold wthF putF
  by_cases hl : lbN fs f.nm < fs.length
  · have h1 := wth_hi h f (fs.length - lbN fs f.nm - 1) (by omega)
    rw [show lbN fs f.nm + (fs.length - lbN fs f.nm - 1) + 1 = fs.length by omega] at h1
    rw [h1, if_pos rfl]
    have e : (fs.drop (lbN fs f.nm)).take (fs.length - lbN fs f.nm - 1 + 1) = fs.drop (lbN fs f.nm) := by
      rw [List.take_of_length_le]; rw [List.length_drop]; omega
    simp only
    rw [e]
    by_cases hn : idxN fs f.nm < fs.length
    · rw [if_pos hn]
      have hli := lb_idx fs f.nm h hn
      rw [hli]
      have hd := List.drop_eq_getElem_cons hn
      rw [hd, List.filter_cons]
      have e2 : (fs[idxN fs f.nm].nm.toList == f.nm.toList) = true := by rw [idx_nm fs f.nm hn]; simp
      simp only [e2, Bool.not_true, Bool.false_eq_true, if_false]
      have e3 : (fs.drop (idxN fs f.nm + 1)).filter (fun x => !(x.nm.toList == f.nm.toList)) = fs.drop (idxN fs f.nm + 1) := by
        rw [List.filter_eq_self]
        intro x hx
        obtain ⟨i, hi, rfl⟩ := List.getElem_of_mem hx
        rw [List.length_drop] at hi
        rw [List.getElem_drop]
        have := nm_ne (a := fs[idxN fs f.nm + 1 + i].nm) (b := f.nm) (fun e => by
          have := srt_uni hs (i := idxN fs f.nm + 1 + i) (j := idxN fs f.nm) (by omega) hn (e.trans (idx_nm fs f.nm hn).symm)
          omega)
        rw [this]; rfl
      rw [e3, List.set_eq_take_append_cons_drop, if_pos hn]
    · rw [if_neg hn]
      unfold insF
      congr 2
      rw [List.filter_eq_self]
      intro x hx
      have := nm_ne (lb_drop h f hn x hx).ne.symm
      rw [this]; rfl
  · have he : lbN fs f.nm = fs.length := by omega
    have h1 := wth_lo h f fs.length (by omega)
    rw [h1]
    have hn : ¬ idxN fs f.nm < fs.length := by
      have := has_none fs f.nm h hl
      unfold hasN at this
      simpa using this
    rw [if_neg hn, he]
    simp [insF]
theorem woT_del {fs : List Fl} (h : okTo fs fs.length = true) (nm : ByteArray) (hn : idxN fs nm < fs.length) : woT fs nm fs.length = fs.eraseIdx (idxN fs nm) := by
  have hs := ok_srt h
  unfold woT
  rw [List.take_length, List.eraseIdx_eq_take_drop_succ]
  have hd : fs = fs.take (idxN fs nm) ++ fs[idxN fs nm] :: fs.drop (idxN fs nm + 1) := by rw [← List.drop_eq_getElem_cons hn, List.take_append_drop]
  have hall : ∀ i (hi : i < fs.length), i ≠ idxN fs nm → (fs[i].nm.toList == nm.toList) = false := fun i hi hne => nm_ne (fun e => hne (srt_uni hs hi hn (e.trans (idx_nm fs nm hn).symm)))
  have e1 : (fs.take (idxN fs nm)).filter (fun f => !(f.nm.toList == nm.toList)) = fs.take (idxN fs nm) := by
    rw [List.filter_eq_self]
    intro x hx
    obtain ⟨i, hi, rfl⟩ := List.getElem_of_mem hx
    rw [List.length_take] at hi
    rw [List.getElem_take, hall i (by omega) (by omega)]; rfl
  have e2 : (fs.drop (idxN fs nm + 1)).filter (fun f => !(f.nm.toList == nm.toList)) = fs.drop (idxN fs nm + 1) := by
    rw [List.filter_eq_self]
    intro x hx
    obtain ⟨i, hi, rfl⟩ := List.getElem_of_mem hx
    rw [List.length_drop] at hi
    rw [List.getElem_drop, hall _ (by omega) (by omega)]; rfl
  have e3 : (fs[idxN fs nm].nm.toList == nm.toList) = true := by rw [idx_nm fs nm hn]; simp
  conv => lhs; rw [hd]
  rw [List.filter_append, List.filter_cons, e1, e2, e3]
  rfl
end Dk
end Go.Proofs.Ytohhiheebhcgeaa
