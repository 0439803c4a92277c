/-
  A NAME KEPT AS A SNAPSHOT, behind any crash (gaffertop.TopSnaps), as plain data.
-/
import Derived.Test.YtjgdmdgiicpemaaSnB
import Derived.Test.YtjgdmdgiicpemaaRigName
namespace Go.Proofs.Ytjgdmdgiicpemaa
open Go.RowKit Go.Lib Go.Sort
namespace Dk
/-- A disk that has nothing but the snapshot, and what was begun of one. -/
structure Ts (fs : List Fl) (k : Nat) (d : ByteArray) : Prop where
  chk : chkN fs = 0
  sm : ∀ f ∈ fs, f.da.size ≤ 70000
  own : ∀ nm, nm ≠ nSt → nm ≠ nSn → look fs nm = none
  syn : ∀ f, look fs nSn = some f → f.sy = (f.da.size : Nat)
  le : lsI fs false ≤ k
  d : PM.bs (lsD fs false) = d
  er : lsE fs false = 0
theorem Ts.up {fs : List Fl} {k m : Nat} {d : ByteArray} (h : Ts fs k d) (hm : k ≤ m) : Ts fs m d := ⟨h.chk, h.sm, h.own, h.syn, Nat.le_trans h.le hm, h.d, h.er⟩
theorem Ts.nil : Ts [] 0 ⟨#[]⟩ := by
  have hl : ∀ nm, look [] nm = none := fun nm => rfl
  obtain ⟨e1, e2, e3, e4, e5⟩ := ls_none (fs := []) chk_nil (hl _)
  exact ⟨chk_nil, by simp, fun nm _ _ => hl nm, (fun f hf => by rw [hl] at hf; cases hf), by omega, by rw [e4]; rfl, e5⟩
theorem Ts.len {fs : List Fl} {k : Nat} {d : ByteArray} (h : Ts fs k d) : fs.length ≤ 2 := by
  have hs := ok_srt (chk_fine _ h.chk).2
  have hn : ∀ i (hi : i < fs.length), fs[i].nm = nSt ∨ fs[i].nm = nSn := by
    intro i hi
    by_cases h1 : fs[i].nm = nSt
    · exact .inl h1
    · by_cases h2 : fs[i].nm = nSn
      · exact .inr h2
      · have h3 := h.own _ h1 h2
        rw [look_of hs (List.getElem_mem hi)] at h3
        cases h3
  by_cases h3 : fs.length ≤ 2
  · exact h3
  · have e := fun i j (hi : i < fs.length) (hj : j < fs.length) (he : fs[i].nm = fs[j].nm) => srt_uni hs hi hj he
    rcases hn 0 (by omega) with a | a <;> rcases hn 1 (by omega) with b | b <;> rcases hn 2 (by omega) with c | c
    all_goals first
      | (have := e 0 1 (by omega) (by omega) (a.trans b.symm); omega)
      | (have := e 0 2 (by omega) (by omega) (a.trans c.symm); omega)
      | (have := e 1 2 (by omega) (by omega) (b.trans c.symm); omega)
theorem ts_rs {i : Nat} (hi : i < 2 ^ 64) {d : ByteArray} (hd : Rg.nameB d = true) : Rs i 0 [1] d := by
  refine ⟨hi, by omega, ?_⟩
  have hs : d.size ≤ 32 := by
    unfold Rg.nameB at hd
    simp only [Bool.and_eq_true, decide_eq_true_eq] at hd
    exact hd.1.2
  have hn : Hd.isN i 0 1 d = false := by unfold Hd.isN; simp
  unfold Hd.chkS
  rw [show ((List.map (fun (k : Nat) => (k : Int)) [1] : List Int)).length = 1 from rfl, hn, if_neg (by simp), if_pos (by rfl), if_neg (by omega)]
/-- What a save of the next name leaves. -/
theorem Ts.save {fs : List Fl} {k : Nat} {d : ByteArray} (h : Ts fs k d) (hk : k < 1000) {n : ByteArray} (hn : Rg.nameB n = true) (fu : Int) (hlo : -9223372036854775808 ≤ fu) (hhi : fu ≤ 9223372036854775807) (o : Out) (ho : o = seqO nSn nSt (snC (k + 1) 0 [1] n) fs false fu 4) :
    (∀ f ∈ o.fs, f.da.size ≤ 70000) ∧ (o.r = 0 ∨ o.r = 8) ∧ chkN o.fs = 0 ∧ -9223372036854775808 ≤ o.fu ∧ o.fu ≤ 9223372036854775807 ∧ (o.r = 0 → o.dn = false ∧ Ts o.fs (k + 1) n) ∧ (o.r = 8 → ∀ ks, Ts (crS o.fs ks o.fs.length) (k + 1) d) := by
  have hR := ts_rs (i := k + 1) (by omega) hn
  have hq := (sq_all 70000 (by omega) fs (snC (k + 1) 0 [1] n) (snC_size hR) fu h.chk h.sm hlo hhi).2.2.2
  rw [← ho] at hq
  have hoth : ∀ nm, nm ≠ nSt → nm ≠ nSn → look o.fs nm = none := fun nm h1 h2 => (hq.other nm h1 h2).trans (h.own nm h1 h2)
  refine ⟨hq.small, ?_, hq.chk, hq.lo, hq.hi, fun hr => ⟨hq.up hr, ?_⟩, fun hr ks => ?_⟩
  · rcases hq.why with e | e | ⟨-, e⟩
    · exact .inl e
    · exact .inr e
    · have := h.len; omega
  · have hl := hq.s4 rfl hr
    obtain ⟨e1, e2, e3, e4, e5⟩ := ls_file hq.chk hR hl
    exact ⟨hq.chk, hq.small, hoth, (fun f hf => by rw [hl] at hf; cases hf; rfl), by omega, e4, e5⟩
  · have hc : chkN (crS o.fs ks o.fs.length) = 0 := crash_chk hq.chk
    have hcs := crash_small (ks := ks) hq.chk hq.small
    have hk2 : look (crS o.fs ks o.fs.length) nSn = look fs nSn := by
      have hkp := hq.keep (.inr (by omega))
      cases hl : look fs nSn with
      | none => rw [hl] at hkp; exact (crash_none hq.chk hkp).2
      | some f => rw [hl] at hkp; exact (crash_look (ks := ks) hq.chk hkp (h.syn f hl)).2
    obtain ⟨e1, -, -, e4, e5⟩ := ls_look h.chk hc hk2
    exact ⟨hc, fun f hf => (hcs f hf).1, fun nm h1 h2 => (crash_none hq.chk (hoth nm h1 h2)).2, fun f hf => (hcs f (look_mem hf).1).2, by rw [e1]; exact Nat.le_succ_of_le h.le, by rw [e4]; exact h.d, by rw [e5]; exact h.er⟩
theorem Ts.fine {fs : List Fl} {k : Nat} {d : ByteArray} (h : Ts fs k d) : Fine fs ∧ fs.length ≤ 4611686018427387904 := ⟨small_fine (S := 70000) (by omega) h.chk h.sm, by have := h.len; omega⟩
end Dk
end Go.Proofs.Ytjgdmdgiicpemaa
