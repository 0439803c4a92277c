/-
  Merged: HardOne, HardCur, HardLives, HardNone, HardAgain.
-/
import Derived.Test.YtpncflgcfndhmaaHardB
/- A DISK OF ITS OWN: what saves make of nothing, and of what was saved. -/
namespace Go.Proofs.Ytpncflgcfndhmaa
open Go.RowKit Go.Lib Go.Sort
namespace Dk
theorem tH : nH.toList = [104, 97, 114, 100] := by rw [ByteArray.toList_eq]; rfl
theorem tT : nT.toList = [104, 97, 114, 100, 46, 116, 109, 112] := by rw [ByteArray.toList_eq]; rfl
theorem eHH : (nH.toList == nH.toList) = true := by simp
theorem eTT : (nT.toList == nT.toList) = true := by simp
theorem eHT : (nH.toList == nT.toList) = false := by rw [tH, tT]; decide
theorem eTH : (nT.toList == nH.toList) = false := by rw [tH, tT]; decide
theorem bHT : Op.bytesLess nH.toList nT.toList = true := by rw [tH, tT]; decide +kernel
theorem bTH : Op.bytesLess nT.toList nH.toList = false := by rw [tH, tT]; decide +kernel
theorem okH : nmOk nH = true := by unfold nmOk; rw [tH]; rfl
theorem okT' : nmOk nT = true := by unfold nmOk; rw [tT]; rfl
/-- The file whole and synced. -/
def fH (da : ByteArray) : Fl := ⟨nH, da, (da.size : Nat)⟩
def fT (da : ByteArray) (s : Int) : Fl := ⟨nT, da, s⟩
theorem idx0 (nm : ByteArray) : idxN [] nm = 0 := rfl
theorem idxHH (da : ByteArray) : idxN [fH da] nH = 0 := by unfold idxN; rw [List.findIdx_cons]; simp [fH]
theorem idxHT (da : ByteArray) : idxN [fH da] nT = 1 := by unfold idxN; rw [List.findIdx_cons]; simp [fH, eHT]
theorem idxTT (da : ByteArray) (s : Int) : idxN [fT da s] nT = 0 := by unfold idxN; rw [List.findIdx_cons]; simp [fT]
theorem idxTH (da : ByteArray) (s : Int) : idxN [fT da s] nH = 1 := by unfold idxN; rw [List.findIdx_cons]; simp [fT, eTH]
theorem idxHTT (d0 da : ByteArray) (s : Int) : idxN [fH d0, fT da s] nT = 1 := by unfold idxN; rw [List.findIdx_cons, List.findIdx_cons]; simp [fT, fH, eHT]
theorem chkH1 (da : ByteArray) : chkN [fH da] = 0 := chk_one _ ⟨by show (0 : Int) ≤ (da.size : Nat); omega, Int.le_refl _⟩
theorem chkT0 (da : ByteArray) : chkN [fT da 0] = 0 := chk_one _ ⟨Int.le_refl _, by show (0 : Int) ≤ (da.size : Nat); omega⟩
theorem chkT1 (da : ByteArray) : chkN [fT da (da.size : Nat)] = 0 := chk_one _ ⟨by show (0 : Int) ≤ (da.size : Nat); omega, Int.le_refl _⟩
theorem chkHT (d0 da : ByteArray) (s : Int) (h0 : 0 ≤ s) (h1 : s ≤ (da.size : Nat)) : chkN [fH d0, fT da s] = 0 := by
  refine chk_good _ (by simp) ?_
  unfold okTo
  simp only [List.length_cons, List.length_nil, List.range_succ, List.range_zero, List.nil_append, List.all_append, List.all_cons, List.all_nil, Bool.and_true]
  rw [okAt_zero _ (by simp), okAt_succ _ 0 (by simp)]
  have hs1 : ¬ ((da.size : Nat) : Int) < s := by omega
  have hs2 : ¬ s < 0 := by omega
  have hs3 : ¬ ((d0.size : Nat) : Int) < 0 := by omega
  simp only [fH, fT, List.getElem_cons_zero, List.getElem_cons_succ, bHT, hs1, hs2, hs3, decide_false, Bool.not_false, Int.lt_irrefl, Bool.and_self]
theorem add0 (da : ByteArray) : addO [] false (-1) nT da = ⟨[fT da 0], false, -1, 0⟩ := by
  have e : putF [] (addF [] nT da) = [fT da 0] := rfl
  unfold addO outO
  rw [if_pos chk_nil, e]
  have h1 : raN ([] : List Fl).length nT (hasN [] nT) = 0 := by unfold raN; rw [okT']; rfl
  rw [h1]
  rfl
theorem addH (d0 da : ByteArray) : addO [fH d0] false (-1) nT da = ⟨[fH d0, fT da 0], false, -1, 0⟩ := by
  have hl : look [fH d0] nT = none := by unfold look; rw [idxHT]; rfl
  have e0 : addF [fH d0] nT da = fT da 0 := by unfold addF; rw [hl]; rfl
  have e : putF [fH d0] (fT da 0) = [fH d0, fT da 0] := by
    unfold putF
    have h1 : idxN [fH d0] (fT da 0).nm = 1 := idxHT d0
    rw [h1, if_neg (by simp)]
    have h2 : lbN [fH d0] (fT da 0).nm = 1 := by
      unfold lbN geA
      simp [List.range_succ, fH, fT, bHT]
    rw [h2]
    rfl
  unfold addO outO
  rw [if_pos (chkH1 d0), e0, e]
  have h1 : raN ([fH d0] : List Fl).length nT (hasN [fH d0] nT) = 0 := by
    unfold raN
    rw [okT', if_pos rfl]
    have h2 : hasN [fH d0] nT = false := by unfold hasN; rw [idxHT]; rfl
    rw [h2]; rfl
  rw [h1]
  rfl
theorem syn0 (da : ByteArray) : synO [fT da 0] false (-1) nT = ⟨[fT da (da.size : Nat)], false, -1, 0⟩ := by
  have hl : look [fT da 0] nT = some (fT da 0) := by unfold look; rw [idxTT]; rfl
  have e0 : synF [fT da 0] nT = fT da (da.size : Nat) := by unfold synF; rw [hl]; rfl
  have e : putF [fT da 0] (fT da (da.size : Nat)) = [fT da (da.size : Nat)] := by
    unfold putF
    have h1 : idxN [fT da 0] (fT da (da.size : Nat)).nm = 0 := idxTT da 0
    rw [h1, if_pos (by simp)]; rfl
  unfold synO outO
  rw [if_pos (chkT0 da), e0, e]
  have h1 : rsN [fT da 0] nT = 0 := by unfold rsN; rw [idxTT]; rfl
  rw [h1]
  rfl
theorem synH (d0 da : ByteArray) : synO [fH d0, fT da 0] false (-1) nT = ⟨[fH d0, fT da (da.size : Nat)], false, -1, 0⟩ := by
  have hl : look [fH d0, fT da 0] nT = some (fT da 0) := by unfold look; rw [idxHTT]; rfl
  have e0 : synF [fH d0, fT da 0] nT = fT da (da.size : Nat) := by unfold synF; rw [hl]; rfl
  have e : putF [fH d0, fT da 0] (fT da (da.size : Nat)) = [fH d0, fT da (da.size : Nat)] := by
    unfold putF
    have h1 : idxN [fH d0, fT da 0] (fT da (da.size : Nat)).nm = 1 := idxHTT d0 da 0
    rw [h1, if_pos (by simp)]; rfl
  unfold synO outO
  rw [if_pos (chkHT d0 da 0 (by omega) (by omega)), e0, e]
  have h1 : rsN [fH d0, fT da 0] nT = 0 := by unfold rsN; rw [idxHTT]; rfl
  rw [h1]
  rfl
theorem swp0 (da : ByteArray) : swpO [fT da (da.size : Nat)] false (-1) nT nH = ⟨[fH da], false, -1, 0⟩ := by
  have hl : look [fT da (da.size : Nat)] nT = some (fT da (da.size : Nat)) := by unfold look; rw [idxTT]; rfl
  have e0 : swpF [fT da (da.size : Nat)] nT nH = fH da := by unfold swpF; rw [hl]; rfl
  unfold swpO outO
  rw [if_pos (chkT1 da), e0, idxTT]
  have h1 : rwN [fT da (da.size : Nat)] nT nH = 0 := by
    unfold rwN
    rw [idxTT]
    show (if ((da.size : Nat) : Int) < (da.size : Nat) then 9 else if nmOk nH = true then 0 else 5) = 0
    rw [if_neg (by omega), if_pos okH]
  rw [h1]
  rfl
theorem swpH (d0 da : ByteArray) : swpO [fH d0, fT da (da.size : Nat)] false (-1) nT nH = ⟨[fH da], false, -1, 0⟩ := by
  have hl : look [fH d0, fT da (da.size : Nat)] nT = some (fT da (da.size : Nat)) := by unfold look; rw [idxHTT]; rfl
  have e0 : swpF [fH d0, fT da (da.size : Nat)] nT nH = fH da := by unfold swpF; rw [hl]; rfl
  have e : putF [fH d0] (fH da) = [fH da] := by
    unfold putF
    have h1 : idxN [fH d0] (fH da).nm = 0 := idxHH d0
    rw [h1, if_pos (by simp)]; rfl
  unfold swpO outO
  rw [if_pos (chkHT d0 da _ (by omega) (by omega)), e0, idxHTT]
  have h1 : rwN [fH d0, fT da (da.size : Nat)] nT nH = 0 := by
    unfold rwN
    rw [idxHTT]
    show (if ((da.size : Nat) : Int) < (da.size : Nat) then 9 else if nmOk nH = true then 0 else 5) = 0
    rw [if_neg (by omega), if_pos okH]
  rw [h1]
  show (⟨putF [fH d0] (fH da), false, _, 0⟩ : Out) = _
  rw [e]
  rfl
theorem rd0 : rdE [] false nT = 6 := by unfold rdE rdN; rw [if_pos chk_nil]; rfl
theorem rdHT (d0 : ByteArray) : rdE [fH d0] false nT = 6 := by unfold rdE rdN; rw [if_pos (chkH1 d0), idxHT]; rfl
theorem seq0 (da : ByteArray) : seqO nH nT da [] false (-1) 1 = ⟨[], false, -1, 0⟩ ∧ seqO nH nT da [] false (-1) 2 = ⟨[fT da 0], false, -1, 0⟩ ∧ seqO nH nT da [] false (-1) 3 = ⟨[fT da (da.size : Nat)], false, -1, 0⟩ ∧ seqO nH nT da [] false (-1) 4 = ⟨[fH da], false, -1, 0⟩ := by
  have h1 : seqO nH nT da [] false (-1) 1 = ⟨[], false, -1, 0⟩ := by rw [seq_succ]; show rw1 nT [] false (-1) = _; unfold rw1; rw [if_pos rd0]
  have h2 : seqO nH nT da [] false (-1) 2 = ⟨[fT da 0], false, -1, 0⟩ := by rw [seq_succ, h1, thenO_ok rfl]; exact add0 da
  have h3 : seqO nH nT da [] false (-1) 3 = ⟨[fT da (da.size : Nat)], false, -1, 0⟩ := by rw [seq_succ, h2, thenO_ok rfl]; exact syn0 da
  have h4 : seqO nH nT da [] false (-1) 4 = ⟨[fH da], false, -1, 0⟩ := by rw [seq_succ, h3, thenO_ok rfl]; exact swp0 da
  exact ⟨h1, h2, h3, h4⟩
theorem seqH (d0 da : ByteArray) : seqO nH nT da [fH d0] false (-1) 1 = ⟨[fH d0], false, -1, 0⟩ ∧ seqO nH nT da [fH d0] false (-1) 2 = ⟨[fH d0, fT da 0], false, -1, 0⟩ ∧ seqO nH nT da [fH d0] false (-1) 3 = ⟨[fH d0, fT da (da.size : Nat)], false, -1, 0⟩ ∧ seqO nH nT da [fH d0] false (-1) 4 = ⟨[fH da], false, -1, 0⟩ := by
  have h1 : seqO nH nT da [fH d0] false (-1) 1 = ⟨[fH d0], false, -1, 0⟩ := by rw [seq_succ]; show rw1 nT [fH d0] false (-1) = _; unfold rw1; rw [if_pos (rdHT d0)]
  have h2 : seqO nH nT da [fH d0] false (-1) 2 = ⟨[fH d0, fT da 0], false, -1, 0⟩ := by rw [seq_succ, h1, thenO_ok rfl]; exact addH d0 da
  have h3 : seqO nH nT da [fH d0] false (-1) 3 = ⟨[fH d0, fT da (da.size : Nat)], false, -1, 0⟩ := by rw [seq_succ, h2, thenO_ok rfl]; exact synH d0 da
  have h4 : seqO nH nT da [fH d0] false (-1) 4 = ⟨[fH da], false, -1, 0⟩ := by rw [seq_succ, h3, thenO_ok rfl]; exact swpH d0 da
  exact ⟨h1, h2, h3, h4⟩
end Dk
end Go.Proofs.Ytpncflgcfndhmaa

/- SAVING onto nothing, and onto what was saved; what is loaded then; what a vote that is none leaves. -/
namespace Go.Proofs.Ytpncflgcfndhmaa
open Go.RowKit Go.Lib Go.Sort
namespace Dk
def fsC : Option ByteArray → List Fl
  | none => []
  | some d => [fH d]
def encB (t v : Nat) : ByteArray := PM.bs (Hd.encL t v)
theorem encB_size (t v : Nat) (ht : t < 2 ^ 64) (hv : v ≤ 7) : (encB t v).size ≤ 24 := by
  unfold encB
  rw [PM.bs_size]
  exact Hd.encL_len t v ht (by omega)
theorem fine_f (f : Fl) (hd : f.da.size ≤ 1000) (h0 : -9223372036854775808 ≤ f.sy) (h1 : f.sy ≤ 9223372036854775807) : f.da.size ≤ maxLen ∧ -9223372036854775808 ≤ f.sy ∧ f.sy ≤ 9223372036854775807 := ⟨by unfold maxLen; omega, h0, h1⟩
theorem inv_list (m : Nat) (hm : m ≤ 24) (l : List Fl) (hl : l.length ≤ 2) (h : ∀ f ∈ l, f.da.size ≤ 1000 ∧ -9223372036854775808 ≤ f.sy ∧ f.sy ≤ 9223372036854775807) : Inv m ⟨l, false, -1, 0⟩ where
  lo := by show (-9223372036854775808 : Int) ≤ -1; omega
  hi := by show (-1 : Int) ≤ 9223372036854775807; omega
  fine := fun f hf => fine_f f (h f hf).1 (h f hf).2.1 (h f hf).2.2
  len := by show l.length ≤ _; omega
  room := fun f hf => by have := (h f hf).1; omega
theorem okfH (da : ByteArray) (h : da.size ≤ 24) : (fH da).da.size ≤ 1000 ∧ -9223372036854775808 ≤ (fH da).sy ∧ (fH da).sy ≤ 9223372036854775807 := ⟨by show da.size ≤ 1000; omega, by show (-9223372036854775808 : Int) ≤ (da.size : Nat); omega, by show ((da.size : Nat) : Int) ≤ 9223372036854775807; omega⟩
theorem okfT (da : ByteArray) (s : Int) (h : da.size ≤ 24) (h0 : 0 ≤ s) (h1 : s ≤ 24) : (fT da s).da.size ≤ 1000 ∧ -9223372036854775808 ≤ (fT da s).sy ∧ (fT da s).sy ≤ 9223372036854775807 := ⟨by show da.size ≤ 1000; omega, by show (-9223372036854775808 : Int) ≤ s; omega, by show s ≤ 9223372036854775807; omega⟩
theorem mem1 {P : Fl → Prop} {a : Fl} (h : P a) : ∀ f ∈ [a], P f := fun f hf => by obtain rfl := List.mem_singleton.1 hf; exact h
theorem mem2 {P : Fl → Prop} {a b : Fl} (h : P a) (h2 : P b) : ∀ f ∈ [a, b], P f := fun f hf => by
  rcases List.mem_cons.1 hf with rfl | hf
  · exact h
  · obtain rfl := List.mem_singleton.1 hf; exact h2
theorem invs (cur : Option ByteArray) (da : ByteArray) (hda : da.size ≤ 24) (hc : ∀ d, cur = some d → d.size ≤ 24) (k : Nat) (hk : k ≤ 4) : Inv da.size (seqO nH nT da (fsC cur) false (-1) k) := by
  have h5 : k = 0 ∨ k = 1 ∨ k = 2 ∨ k = 3 ∨ k = 4 := by omega
  cases cur with
  | none =>
    obtain ⟨e1, e2, e3, e4⟩ := seq0 da
    rcases h5 with rfl | rfl | rfl | rfl | rfl
    · exact inv_list _ hda [] (by simp) (fun f hf => by cases hf)
    · show Inv _ (seqO nH nT da [] false (-1) 1); rw [e1]; exact inv_list _ hda [] (by simp) (fun f hf => by cases hf)
    · show Inv _ (seqO nH nT da [] false (-1) 2); rw [e2]; exact inv_list _ hda _ (by simp) (mem1 (okfT _ _ hda (by omega) (by omega)))
    · show Inv _ (seqO nH nT da [] false (-1) 3); rw [e3]; exact inv_list _ hda _ (by simp) (mem1 (okfT _ _ hda (by omega) (by omega)))
    · show Inv _ (seqO nH nT da [] false (-1) 4); rw [e4]; exact inv_list _ hda _ (by simp) (mem1 (okfH _ hda))
  | some d =>
    have hd := hc d rfl
    obtain ⟨e1, e2, e3, e4⟩ := seqH d da
    rcases h5 with rfl | rfl | rfl | rfl | rfl
    · exact inv_list _ hda [fH d] (by simp) (mem1 (okfH _ hd))
    · show Inv _ (seqO nH nT da [fH d] false (-1) 1); rw [e1]; exact inv_list _ hda _ (by simp) (mem1 (okfH _ hd))
    · show Inv _ (seqO nH nT da [fH d] false (-1) 2); rw [e2]; exact inv_list _ hda _ (by simp) (mem2 (okfH _ hd) (okfT _ _ hda (by omega) (by omega)))
    · show Inv _ (seqO nH nT da [fH d] false (-1) 3); rw [e3]; exact inv_list _ hda _ (by simp) (mem2 (okfH _ hd) (okfT _ _ hda (by omega) (by omega)))
    · show Inv _ (seqO nH nT da [fH d] false (-1) 4); rw [e4]; exact inv_list _ hda _ (by simp) (mem1 (okfH _ hda))
theorem seq_end (cur : Option ByteArray) (da : ByteArray) : seqO nH nT da (fsC cur) false (-1) 4 = ⟨[fH da], false, -1, 0⟩ := by
  cases cur with
  | none => exact (seq0 da).2.2.2
  | some d => exact (seqH d da).2.2.2
theorem save_cur (cur : Option ByteArray) (hc : ∀ d, cur = some d → d.size ≤ 24) (dv : Value) (t v : Nat) (ht : t < 2 ^ 64) (hv : v ≤ 7) (w : World) (hf : Files w w.heap.size dv (fsC cur)) :
    Calls Try.prog 11 #[.agg #[dv, .bool false, .int .i64 (-1)], .agg #[.int .u64 (t : Nat), .int .i64 (v : Nat)]] w (DoW w (.slice none 0 0) [fH (encB t v)] false (-1) 0) := by
  have hda := encB_size t v ht hv
  have hi := fun k hk => invs cur (encB t v) hda hc k hk
  have hA := all4 nH nT (encB t v) (fsC cur) false (-1) (by omega) hi
  refine save_ok dv false (-1) (fsC cur) t v ⟨[fH (encB t v)], false, -1, 0⟩ ht hv (fun x g pF pT pC hx hr => ?_) w hf
  have := do_rewrite nH nT (encB t v) (seqO nH nT (encB t v) (fsC cur) false (-1)) hA rfl (fun k hk hr => by
    obtain ⟨j, e⟩ : ∃ j, 4 = k + j := ⟨4 - k, by omega⟩
    rw [show seqO nH nT (encB t v) (fsC cur) false (-1) 4 = seqO nH nT (encB t v) (fsC cur) false (-1) (k + j) by rw [← e]]
    exact seq_stop nH nT (encB t v) (fsC cur) false (-1) k hr j) (by cases cur <;> simp [seqO, fsC]) (hi 0 (by omega)).fine dv g pF pT pC x hx hr
  rw [seq_end] at this
  exact this
theorem load_enc (t v : Nat) (ht : t < 2 ^ 64) (hv : v ≤ 7) : ldT [fH (encB t v)] false = t ∧ ldV [fH (encB t v)] false = v ∧ ldE [fH (encB t v)] false = 0 := by
  have h0 : rdE [fH (encB t v)] false nHd = 0 := by
    unfold rdE rdN
    rw [if_pos (chkH1 _)]
    show (if (if false = true then 8 else 0) = 0 then (if idxN [fH (encB t v)] nH < _ then 0 else 6) else _) = 0
    rw [idxHH]; rfl
  have hs : rdS [fH (encB t v)] false nHd = encB t v := by
    unfold rdS rdN
    rw [if_pos (chkH1 _)]
    show (if (if false = true then 8 else 0) = 0 then (match [fH (encB t v)][idxN [fH (encB t v)] nH]? with | none => ⟨#[]⟩ | some f => f.da) else ⟨#[]⟩) = encB t v
    rw [idxHH]; rfl
  have he : (encB t v).data.toList = Hd.encL t v := PM.bs_data _
  obtain ⟨h1, h2, h3, h4⟩ := Hd.enc_back t v ht hv
  refine ⟨?_, ?_, ?_⟩
  · unfold ldT; rw [if_pos h0, hs, he, h2]
  · unfold ldV; rw [if_pos h0, hs, he, h3]
  · unfold ldE; rw [if_pos h0, hs, he, h4]
theorem load_nil : ldT [] false = 0 ∧ ldV [] false = 0 ∧ ldE [] false = 0 := by
  have h0 : rdE [] false nHd = 6 := by unfold rdE rdN; rw [if_pos chk_nil]; rfl
  unfold ldT ldV ldE
  rw [h0]
  exact ⟨rfl, rfl, rfl⟩
theorem load_cur (dv : Value) (t v : Nat) (ht : t < 2 ^ 64) (hv : v ≤ 7) (w : World) (hf : Files w w.heap.size dv [fH (encB t v)]) :
    Calls Try.prog 9 #[.agg #[dv, .bool false, .int .i64 (-1)]] w fun e w' => e = .returned (.tuple #[.agg #[.int .u64 (t : Nat), .int .i64 (v : Nat)], .int .i64 0]) ∧ Below w.heap.size w w' := by
  have := load_any dv false (-1) _ w hf
  unfold LoadIs at this
  obtain ⟨h1, h2, h3⟩ := load_enc t v ht hv
  rw [h1, h2, h3] at this
  exact this
theorem load_zero (dv : Value) (w : World) (hf : Files w w.heap.size dv []) :
    Calls Try.prog 9 #[.agg #[dv, .bool false, .int .i64 (-1)]] w fun e w' => e = .returned (.tuple #[.agg #[.int .u64 0, .int .i64 0], .int .i64 0]) ∧ Below w.heap.size w w' := by
  have := load_any dv false (-1) _ w hf
  unfold LoadIs at this
  obtain ⟨h1, h2, h3⟩ := load_nil
  rw [h1, h2, h3] at this
  exact this
theorem crash_cur (dv : Value) (d : ByteArray) (w : World) (hf : Files w w.heap.size dv [fH d]) :
    Calls Try.prog 17 #[.agg #[dv, .bool false, .int .i64 (-1)], .slice none 0 0] w (DoIs w [fH d] false (-1) 0) := by
  have h := crash_own dv (.slice none 0 0) false (-1) [fH d] [] w hf ⟨none, 0, rfl, by simp, by simp, by simp⟩ (chkH1 d)
  have e2 : crS [fH d] [] [fH d].length = [fH d] := by
    show [crF (fH d) (d.size : Nat)] = _
    unfold crF fH
    simp
  rw [e2] at h
  exact h
end Dk
end Go.Proofs.Ytpncflgcfndhmaa

/- lives of layer 4 is true. -/
namespace Go.Proofs.Ytpncflgcfndhmaa
open Go.RowKit Go.Lib Go.Sort
namespace Dk
theorem St.stepW {w x x' : World} {B : Nat} {v : Value} {dn dn2 : Bool} {fu fu2 : Int} {fs fs2 : List Fl} {r : Nat} {e : Ending} (h : St w B x v dn fu fs) (hd : DoW x (.slice none 0 0) fs2 dn2 fu2 r e x') :
    ∃ v', e = .returned (.tuple #[.agg #[v', .bool dn2, .int .i64 fu2], .int .i64 (r : Nat)]) ∧ (∃ a c, v' = .slice a fs2.length c) ∧ St w B x' v dn fu fs ∧ St w B (st3 x' B v' dn2 fu2) v' dn2 fu2 fs2 ∧ Files x' x'.heap.size v' fs2 := by
  obtain ⟨v', rfl, hf, hh, hb⟩ := hd
  have h' := h.keep hb
  have hhi := hh x.heap.size (Nat.le_refl _) (hi_none _ _ _)
  refine ⟨v', rfl, files_slice hf, h', ⟨h.lo, by unfold st3; simpa using h'.hi, bset (bset (bset h'.below h.lo _) h.lo _) h.lo _, h'.dx.st, hf.put3 hhi h.hi⟩, hf⟩
theorem fineH (d : ByteArray) (h : d.size ≤ 24) : Fine [fH d] := fine_one _ ⟨by show d.size ≤ maxLen; unfold maxLen; omega, by show (-9223372036854775808 : Int) ≤ (d.size : Nat); omega, by show ((d.size : Nat) : Int) ≤ 9223372036854775807; omega⟩
theorem save_nil (t v : Nat) (ht : t < 2 ^ 64) (hv : v ≤ 7) (w : World) :
    Calls Try.prog 11 #[.agg #[.slice none 0 0, .bool false, .int .i64 (-1)], .agg #[.int .u64 (t : Nat), .int .i64 (v : Nat)]] w (DoW w (.slice none 0 0) [fH (encB t v)] false (-1) 0) :=
  save_cur none (fun _ e => by cases e) _ t v ht hv w (nil_files w)
set_option maxRecDepth 100000 in
set_option maxHeartbeats 4000000 in
theorem hlives (w : World) : Calls Try.prog 13 #[] w fun e w' => e = .returned (.bool true) ∧ Below w.heap.size w w' := by
  have HL0 := Lib.hid (fun x => load_zero (.slice none 0 0) x (nil_files x))
  have HS1 := Lib.hid (fun x => save_nil 7 3 (by omega) (by omega) x)
  have hsz : (encB 7 3).size ≤ 24 := encB_size 7 3 (by omega) (by omega)
  have HFI := Lib.hid (fineH _ hsz)
  have HC2 := Lib.hid (fun dv => crash_cur dv (encB 7 3))
  have HL3 := Lib.hid (fun dv x => load_cur dv 7 3 (by omega) (by omega) x)
  have HK4 := Lib.hid (fun x => Hd.check_any 0 8 x)
  generalize encB 7 3 = d at *
  clear hsz
  go_enter Try.func13, Try.ntmps13
  go_wp2_with (go_at_call 9; go_loud (refine (HL0.out _).mono ?_; rintro e w1 ⟨rfl, hb⟩; have HB1 := Lib.hid hb; clear hb))
  go_wp2_with (go_at_call 11; go_loud (refine (HS1.out _).mono ?_; rintro e w2 ⟨v2, rfl, hf, hh, hb⟩; obtain ⟨a2, c2, rfl⟩ : ∃ a c, v2 = .slice a 1 c := files_slice hf; have HS2 := Lib.hid (show St w w2.heap.size (w2.alloc (.cells #[.slice a2 1 c2, .bool false, .int .i64 (-1)] 24)) (.slice a2 1 c2) false (-1) [fH d] from ⟨Nat.le_trans HB1.out.size (Nat.le_trans (by simp) hb.size), by simp, ((HB1.out.alloc HB1.out.size _).trans (hb.mono (Nat.le_trans HB1.out.size (by simp)))).alloc (Nat.le_trans HB1.out.size (Nat.le_trans (by simp) hb.size)) _, Dx.made _ _ _ _, hf.al _⟩); have HH0 : Hid (w1.heap.size < w2.heap.size ∧ w2.cell? ⟨w1.heap.size, 0, none⟩ = some (.int .u64 0) ∧ w2.cell? ⟨w1.heap.size, 1, none⟩ = some (.int .i64 0)) := ⟨Nat.lt_of_lt_of_le (by simp) hb.size, (hb.cell (by simp)).trans (by simp [go_sem]), (hb.cell (by simp)).trans (by simp [go_sem])⟩; clear hf hh hb))
  go_wp2_with (go_at_call 17; go_loud (refine (HC2.out _ _ HS2.out.files).mono ?_; intro e w3 hd; obtain ⟨v3, rfl, ⟨a3, c3, rfl⟩, hs, hS, _⟩ := HS2.out.step hd HFI.out (by simp); obtain ⟨d0, d1, d2, d3, d4, d5⟩ := hs.dx; have HS3 := Lib.hid hS; unfold st3 at HS3; have HB3 : Hid (Below w2.heap.size w2 w3) := (by obtain ⟨_, _, _, hb3⟩ := hd; exact ((Below.refl _ _).alloc (Nat.le_refl _) _).trans (hb3.mono (by simp))); clear hS hs hd))
  go_wp2_with (go_at_call 9; go_loud (refine (HL3.out _ _ HS3.out.files).mono ?_; rintro e w4 ⟨rfl, hb⟩; have HB4 := Lib.hid (HS3.out.keep hb).below; have HB5 : Hid (Below w2.heap.size w2 w4) := (below3 HB3.out (Nat.le_refl _)).trans (hb.mono (by simpa using HB3.out.size)); have g0 : (w4.alloc (.cells #[.int .u64 7, .int .i64 3] 27)).cell? ⟨w1.heap.size, 0, none⟩ = some (.int .u64 0) := (((Below.refl _ _).alloc (Nat.le_refl _) _).cell (Nat.lt_of_lt_of_le HH0.out.1 HB5.out.size)).trans ((HB5.out.cell HH0.out.1).trans HH0.out.2.1); have g1 : (w4.alloc (.cells #[.int .u64 7, .int .i64 3] 27)).cell? ⟨w1.heap.size, 1, none⟩ = some (.int .i64 0) := (((Below.refl _ _).alloc (Nat.le_refl _) _).cell (Nat.lt_of_lt_of_le HH0.out.1 HB5.out.size)).trans ((HB5.out.cell HH0.out.1).trans HH0.out.2.2); clear hb))
  go_wp2
  go_ret
  exact ⟨by rfl, (HB4.out.alloc HB4.out.size _).alloc (Nat.le_trans HB4.out.size (by simp)) _⟩
end Dk
end Go.Proofs.Ytpncflgcfndhmaa

/- SAVING what is not right: changes.None, hard.Save's error. -/
namespace Go.Proofs.Ytpncflgcfndhmaa
open Go.RowKit Go.Lib Go.Sort
namespace Dk
theorem bodyPost_disk1 {fn : Func} {p : Tmp} (h : fn.results = #[.cell p 24]) {R : Ending → World → Prop} {a : Act} {w : World} (B : Nat) (v : Value) (dn : Bool) (fu : Int) (hd : a.defers = [])
    (hp : a.tmps.getD p undef = .pointer (some ⟨B, 0, none⟩)) (h0 : w.cell? ⟨B, 0, none⟩ = some v) (h1 : w.cell? ⟨B, 1, none⟩ = some (.bool dn)) (h2 : w.cell? ⟨B, 2, none⟩ = some (.int .i64 fu))
    (hR : R (.returned (.agg #[v, .bool dn, .int .i64 fu])) w) : bodyPost Try.prog fn R .ret a w := by
  refine bodyPost_ret ?_ hd hR
  rw [Hd.one_result h, hp]
  have := load_disk w B v dn fu h0 h1 h2
  simp [asAddr, this, Result.andThen]
theorem two_made (w x : World) (v v2 : Value) (dn dn2 : Bool) (fu fu2 : Int) (hb : Below ((w.alloc (.cells #[v, .bool dn, .int .i64 fu] 24)).alloc (.cells #[v2, .bool dn2, .int .i64 fu2] 24)).heap.size ((w.alloc (.cells #[v, .bool dn, .int .i64 fu] 24)).alloc (.cells #[v2, .bool dn2, .int .i64 fu2] 24)) x) :
    Dx w.heap.size x v dn fu ∧ Dx (w.heap.size + 1) x v2 dn2 fu2 ∧ Below w.heap.size w x ∧ w.heap.size + 2 ≤ x.heap.size := by
  refine ⟨((Dx.made w v dn fu).keep ((Below.refl _ _).alloc (Nat.le_refl _) _) (by simp)).keep hb (by simp; omega), ?_, (((Below.refl _ _).alloc (Nat.le_refl _) _).alloc (by simp) _).trans (hb.mono (by simp; omega)), by have := hb.size; simp at this; omega⟩
  have := (Dx.made (w.alloc (.cells #[v, .bool dn, .int .i64 fu] 24)) v2 dn2 fu2).keep hb (by simp)
  simpa using this
set_option maxRecDepth 100000 in
set_option maxHeartbeats 4000000 in
theorem none_nil (w : World) :
    Calls Try.prog 24 #[.agg #[.slice none 0 0, .bool false, .int .i64 (-1)]] w fun e w' => ∃ v', e = .returned (.agg #[v', .bool false, .int .i64 (-1)]) ∧ Files w' w'.heap.size v' [] ∧ Below w.heap.size w w' := by
  have HC0 := Lib.hid (fun x => check_own (.slice none 0 0) false (-1) [] x (nil_files x))
  rw [chk_nil] at HC0
  have HCL := Lib.hid (fun x => clone_own (.slice none 0 0) [] x (nil_files x) (by simp))
  go_enter Try.func24, Try.ntmps24
  go_wp2_with (go_at_call 30; go_loud (refine (HC0.out _).mono ?_; rintro e w1 ⟨rfl, hb⟩; obtain ⟨hd, he, hw, hz⟩ := two_made _ _ _ _ _ _ _ _ hb; have HD1 := Lib.hid hd; have HE1 := Lib.hid he; have HW1 := Lib.hid hw; have HZ1 := Lib.hid hz; obtain ⟨d0, d1, d2, d3, d4, d5⟩ := hd; clear hb he hw hz))
  go_wp2_with (go_at_call 31; go_loud (refine (HCL.out _).mono ?_; rintro e w2 ⟨v2, rfl, hown, hb⟩; obtain ⟨a2, c2, rfl⟩ : ∃ a c, v2 = .slice a 0 c := hown.slice; obtain ⟨d0, d1, d2, d3, d4, d5⟩ := HD1.out.keep hb (Nat.lt_of_lt_of_le (by omega) HZ1.out); obtain ⟨x0, x1, x2, x3, x4, x5⟩ := HE1.out.keep hb (Nat.lt_of_lt_of_le (by omega) HZ1.out); have HB2 := Lib.hid (HW1.out.trans (hb.mono HW1.out.size)); clear hb hown))
  go_wp2
  refine bodyPost_disk1 rfl (w.heap.size + 1) (.slice a2 0 c2) false (-1) rfl rfl ?_ ?_ ?_ ?_
  case refine_1 => go_simp
  case refine_2 => go_simp
  case refine_3 => go_simp
  case refine_4 => exact ⟨_, rfl, ⟨a2, c2, rfl, by simp, by simp, by simp⟩, below3 (bset HB2.out (Nat.le_refl _) _) (Nat.le_succ _)⟩
theorem three_made (w x : World) (v v2 t0 t1 : Value) (dn dn2 : Bool) (fu fu2 : Int) (hb : Below (((w.alloc (.cells #[v, .bool dn, .int .i64 fu] 24)).alloc (.cells #[t0, t1] 27)).alloc (.cells #[v2, .bool dn2, .int .i64 fu2] 24)).heap.size (((w.alloc (.cells #[v, .bool dn, .int .i64 fu] 24)).alloc (.cells #[t0, t1] 27)).alloc (.cells #[v2, .bool dn2, .int .i64 fu2] 24)) x) :
    Dx w.heap.size x v dn fu ∧ Dx (w.heap.size + 2) x v2 dn2 fu2 ∧ Below w.heap.size w x ∧ w.heap.size + 3 ≤ x.heap.size := by
  refine ⟨((Dx.made w v dn fu).keep (((Below.refl _ _).alloc (Nat.le_refl _) _).alloc (by simp) _) (by simp)).keep hb (by simp; omega), ?_, ((((Below.refl _ _).alloc (Nat.le_refl _) _).alloc (by simp) _).alloc (by simp; omega) _).trans (hb.mono (by simp; omega)), by have := hb.size; simp at this; omega⟩
  have := (Dx.made ((w.alloc (.cells #[v, .bool dn, .int .i64 fu] 24)).alloc (.cells #[t0, t1] 27)) v2 dn2 fu2).keep hb (by simp)
  simpa using this
set_option maxRecDepth 100000 in
set_option maxHeartbeats 4000000 in
theorem save_bad (t v : Int) (hv : Hd.chkH v ≠ 0) (w : World) :
    Calls Try.prog 11 #[.agg #[.slice none 0 0, .bool false, .int .i64 (-1)], .agg #[.int .u64 t, .int .i64 v]] w fun e w' => ∃ v', e = .returned (.tuple #[.agg #[v', .bool false, .int .i64 (-1)], .int .i64 (Hd.chkH v : Nat)]) ∧ Files w' w'.heap.size v' [] ∧ Below w.heap.size w w' := by
  have HCK := Lib.hid (fun w => Hd.check_any t v w)
  have hv1 : Hd.chkH v = 1 := by unfold Hd.chkH at hv ⊢; split <;> simp_all
  rw [hv1] at HCK ⊢
  clear hv hv1
  have HN := Lib.hid (fun w => none_nil w)
  go_enter Try.func11, Try.ntmps11
  go_wp2_with (go_at_call 15; go_loud (refine (HCK.out _).mono ?_; rintro e w1 ⟨rfl, hb⟩; obtain ⟨hd, he, hw, hz⟩ := three_made _ _ _ _ _ _ _ _ _ _ hb; have HD1 := Lib.hid hd; have HE1 := Lib.hid he; have HW1 := Lib.hid hw; have HZ1 := Lib.hid hz; obtain ⟨d0, d1, d2, d3, d4, d5⟩ := hd; clear hb he hw hz))
  go_wp2_with (go_at_call 24; go_loud (refine (HN.out _).mono ?_; rintro e w2 ⟨v2, rfl, hf, hb⟩; obtain ⟨a2, c2, rfl⟩ : ∃ a c, v2 = .slice a 0 c := files_slice hf; obtain ⟨x0, x1, x2, x3, x4, x5⟩ := HE1.out.keep hb (Nat.lt_of_lt_of_le (by omega) HZ1.out); have HB2 := Lib.hid (HW1.out.trans (hb.mono HW1.out.size)); clear hb hf))
  go_wp2
  refine bodyPost_disk rfl (w.heap.size + 1 + 1) (.slice a2 0 c2) false (-1) rfl rfl ?_ ?_ ?_ ?_
  case refine_1 => go_simp
  case refine_2 => go_simp
  case refine_3 => go_simp
  case refine_4 => exact ⟨_, rfl, ⟨a2, c2, rfl, by simp, by simp, by simp⟩, below3 HB2.out (by omega)⟩
end Dk
end Go.Proofs.Ytpncflgcfndhmaa

/- LAW: HardAgain. -/
namespace Go.Proofs.Ytpncflgcfndhmaa
open Go.RowKit Go.Lib Go.Sort
namespace Dk
set_option maxRecDepth 100000 in
set_option maxHeartbeats 4000000 in
theorem hardAgain_bad (t : Nat) (v : Int) (n : Nat) (hn : n < 256) (hv : Hd.chkH v ≠ 0) (w : World) :
    Calls Try.prog 7 #[.agg #[.int .u64 t, .int .i64 v], .int .u8 n] w fun e w' => e = .returned (.bool true) ∧ Below w.heap.size w w' := by
  have HL := Lib.hid (fun x => hlives x)
  have HSB := Lib.hid (fun x => save_bad (t : Nat) v hv x)
  have HCK := Lib.hid (fun x => Hd.check_any (t : Nat) v x)
  have HSM := Lib.hid (fun x v1 v2 (h1 : Files x x.heap.size v1 []) (h2 : Files x x.heap.size v2 []) => same_ref v1 v2 false false (-1) (-1) [] [] x h1 h2)
  generalize hc : Hd.chkH v = c at *
  have hc1 : c = 1 := by unfold Hd.chkH at hc; split at hc <;> (try split at hc) <;> simp_all
  subst hc1
  clear hc hv
  go_enter Try.func7, Try.ntmps7
  go_wp2_with (go_at_call 13; go_loud (refine (HL.out _).mono ?_; rintro e w1 ⟨rfl, hb⟩; have HB1 := Lib.hid hb; have c0 : w1.cell? ⟨w.heap.size, 0, none⟩ = some (.int .u64 (t : Nat)) := (hb.cell (by simp)).trans (by simp [go_sem]); have c1 : w1.cell? ⟨w.heap.size, 1, none⟩ = some (.int .i64 v) := (hb.cell (by simp)).trans (by simp [go_sem]); have hz : w.heap.size < w1.heap.size := Nat.lt_of_lt_of_le (by simp) hb.size; have HC0 := Lib.hid (And.intro hz (And.intro c0 c1)); clear hb hz c0 c1))
  go_wp2
  have HS1 : Hid (St w1 w1.heap.size (w1.alloc (.cells #[.slice none 0 0, .bool false, .int .i64 (-1)] 24)) (.slice none 0 0) false (-1) []) := ⟨Nat.le_refl _, by simp, (Below.refl _ _).alloc (Nat.le_refl _) _, Dx.made _ _ _ _, nil_files _⟩
  go_loopg [6] 1 (fun g i wx => g = 1 ∧ i = .int .i64 0 ∧ wx = w1.alloc (.cells #[.slice none 0 0, .bool false, .int .i64 (-1)] 24))
  case atStart => exact ⟨rfl, rfl, rfl⟩
  case round =>
    obtain ⟨rfl, rfl, rfl⟩ := hrel
    obtain ⟨d0, d1, d2, d3, d4, d5⟩ := HS1.out.dx
    have t0 : (0 : Int) ≤ (n : Int) % 8 := by omega
    have t1 : ((n : Int) % 8 < 0) = False := by simp; omega
    have hA : Below w1.heap.size w1 (w1.alloc (.cells #[.slice none 0 0, .bool false, .int .i64 (-1)] 24)) := (Below.refl _ _).alloc (Nat.le_refl _) _
    have c0 : (w1.alloc (.cells #[.slice none 0 0, .bool false, .int .i64 (-1)] 24)).cell? ⟨w.heap.size, 0, none⟩ = some (.int .u64 (t : Nat)) := (hA.cell HC0.out.1).trans HC0.out.2.1
    have c1 : (w1.alloc (.cells #[.slice none 0 0, .bool false, .int .i64 (-1)] 24)).cell? ⟨w.heap.size, 1, none⟩ = some (.int .i64 v) := (hA.cell HC0.out.1).trans HC0.out.2.2
    go_wp2_with (go_at_call 11; go_loud (refine (HSB.out _).mono ?_; rintro e w2 ⟨v2, rfl, hf, hb⟩; obtain ⟨a2, c2, rfl⟩ : ∃ a c, v2 = .slice a 0 c := files_slice hf; have hB2 : Below w1.heap.size w1 w2 := ((Below.refl _ _).alloc (Nat.le_refl _) _).trans (hb.mono (by simp)); have hW : Below w2.heap.size w2 (w2.alloc (.cells #[.slice a2 0 c2, .bool false, .int .i64 (-1)] 24)) := (Below.refl _ _).alloc (Nat.le_refl _) _; have hS2 := HS1.out.keep hb; have HH2 : Hid (w.heap.size < w2.heap.size ∧ w2.cell? ⟨w.heap.size, 0, none⟩ = some (.int .u64 (t : Nat)) ∧ w2.cell? ⟨w.heap.size, 1, none⟩ = some (.int .i64 v)) := ⟨Nat.lt_of_lt_of_le HC0.out.1 hB2.size, (hB2.cell HC0.out.1).trans HC0.out.2.1, (hB2.cell HC0.out.1).trans HC0.out.2.2⟩; have k0 := (hW.cell HH2.out.1).trans HH2.out.2.1; have k1 := (hW.cell HH2.out.1).trans HH2.out.2.2; have HS2 := Lib.hid hS2; have HF2 := Lib.hid hf; have HW := Lib.hid hW; obtain ⟨x0, x1, x2, x3, x4, x5⟩ := (hS2.keep hW).dx; clear hf hb hB2 hW hS2))
    go_wp2_with (go_at_call 15; go_loud (refine (HCK.out _).mono ?_; rintro e w3 ⟨rfl, hb⟩; obtain ⟨d0, d1, d2, d3, d4, d5⟩ := ((HS2.out.keep HW.out).keep hb).dx; have y0 : w3.cell? ⟨w2.heap.size, 0, none⟩ = some (.slice a2 0 c2) := (hb.cell (by simp)).trans (by simp [go_sem]); have y1 : w3.cell? ⟨w2.heap.size, 1, none⟩ = some (.bool false) := (hb.cell (by simp)).trans (by simp [go_sem]); have y2 : w3.cell? ⟨w2.heap.size, 2, none⟩ = some (.int .i64 (-1)) := (hb.cell (by simp)).trans (by simp [go_sem]); have HB3 : Hid (Below w1.heap.size w1 w3) := ((HS2.out.keep HW.out).keep hb).below; clear hb))
    go_wp2_with (go_at_call 14; go_loud (refine (HSM.out _ _ _ (nil_files _) ⟨a2, c2, rfl, by simp, by simp, by simp⟩).mono ?_; rintro e w4 ⟨⟨b, rfl, hbt⟩, hb⟩; obtain rfl : b = true := hbt.2 ⟨rfl, rfl, rfl⟩; have HB4 : Hid (Below w1.heap.size w1 w4) := HB3.out.trans (hb.mono HB3.out.size); clear hb hbt))
    go_ret
    exact ⟨by rfl, (((Below.refl _ _).alloc (Nat.le_refl _) _).trans (HB1.out.mono (by simp))).trans (HB4.out.mono (Nat.le_of_lt HC0.out.1))⟩
theorem St.move {w x : World} {B : Nat} {v v' : Value} {dn dn2 : Bool} {fu fu2 : Int} {fs fs2 : List Fl} (h : St w B x v dn fu fs) (hf : Files x x.heap.size v' fs2) (hh : Hi (B + 1) v') : St w B (st3 x B v' dn2 fu2) v' dn2 fu2 fs2 :=
  ⟨h.lo, by unfold st3; simpa using h.hi, bset (bset (bset h.below h.lo _) h.lo _) h.lo _, h.dx.st, hf.put3 hh (Nat.lt_succ_self _)⟩
set_option maxRecDepth 100000 in
set_option maxHeartbeats 4000000 in
theorem hardAgain_ok (t v n : Nat) (ht : t < 2 ^ 64) (hn : n < 256) (hv : v ≤ 7) (w : World) :
    Calls Try.prog 7 #[.agg #[.int .u64 t, .int .i64 v], .int .u8 n] w fun e w' => e = .returned (.bool true) ∧ Below w.heap.size w w' := by
  have HL := Lib.hid (fun x => hlives x)
  have hsz := encB_size t v ht hv
  have HSV : Hid (∀ x dv fs, (fs = [] ∨ fs = [fH (encB t v)]) → Files x x.heap.size dv fs → Calls Try.prog 11 #[.agg #[dv, .bool false, .int .i64 (-1)], .agg #[.int .u64 (t : Nat), .int .i64 (v : Nat)]] x (DoW x (.slice none 0 0) [fH (encB t v)] false (-1) 0)) := by
    intro x dv fs h hf
    rcases h with rfl | rfl
    · exact save_cur none (fun _ e => by cases e) dv t v ht hv x hf
    · exact save_cur (some (encB t v)) (fun _ e => by cases e; exact hsz) dv t v ht hv x hf
  have HLD := Lib.hid (fun x dv => load_cur dv t v ht hv x)
  generalize encB t v = d at *
  clear hsz ht hv
  go_enter Try.func7, Try.ntmps7
  go_wp2_with (go_at_call 13; go_loud (refine (HL.out _).mono ?_; rintro e w1 ⟨rfl, hb⟩; have HB1 := Lib.hid hb; have c0 : w1.cell? ⟨w.heap.size, 0, none⟩ = some (.int .u64 (t : Nat)) := (hb.cell (by simp)).trans (by simp [go_sem]); have c1 : w1.cell? ⟨w.heap.size, 1, none⟩ = some (.int .i64 (v : Nat)) := (hb.cell (by simp)).trans (by simp [go_sem]); have hz : w.heap.size < w1.heap.size := Nat.lt_of_lt_of_le (by simp) hb.size; have HC0 := Lib.hid (And.intro hz (And.intro c0 c1)); clear hb hz c0 c1))
  go_wp2
  have HS1 : Hid (St w1 w1.heap.size (w1.alloc (.cells #[.slice none 0 0, .bool false, .int .i64 (-1)] 24)) (.slice none 0 0) false (-1) []) := ⟨Nat.le_refl _, by simp, (Below.refl _ _).alloc (Nat.le_refl _) _, Dx.made _ _ _ _, nil_files _⟩
  go_loopg [6] (n % 8 + 1) (fun g i wx => ∃ (k : Nat) (a : Option Addr) (c : Nat) (fs : List Fl), (fs = [] ∧ k = 0 ∨ fs = [fH d]) ∧ k + g = n % 8 + 1 ∧ i = .int .i64 k ∧ Hid (St w1 w1.heap.size wx (.slice a fs.length c) false (-1) fs))
  case atStart => exact ⟨0, none, 0, [], .inl ⟨rfl, rfl⟩, by omega, rfl, HS1.out⟩
  case round =>
    obtain ⟨k, a, c, fs, hfs, hk, rfl, HSX⟩ := hrel
    have HFS := Lib.hid hfs
    have HK := Lib.hid hk
    have hx0 := (HSX.out.below.cell (p := ⟨w.heap.size, 0, none⟩) HC0.out.1).trans HC0.out.2.1
    have hx1 := (HSX.out.below.cell (p := ⟨w.heap.size, 1, none⟩) HC0.out.1).trans HC0.out.2.2
    obtain ⟨d0, d1, d2, d3, d4, d5⟩ := HSX.out.dx
    cases gk with
    | zero =>
      obtain rfl : fs = [fH d] := by rcases hfs with ⟨-, h⟩ | h; omega; exact h
      have t0 : ¬ (k : Int) ≤ (n : Int) % 8 := by omega
      have t1 : (n : Int) % 8 < (k : Int) := by omega
      clear hfs hk
      go_wp2_with (go_at_call 9; go_loud (refine (HLD.out _ _ HSX.out.files).mono ?_; rintro e w2 ⟨rfl, hb⟩; have hW : Below w2.heap.size w2 (w2.alloc (.cells #[.int .u64 (t : Nat), .int .i64 (v : Nat)] 27)) := (Below.refl _ _).alloc (Nat.le_refl _) _; have HS3 := Lib.hid ((HSX.out.keep hb).keep hW); have k0 := (HS3.out.below.cell (p := ⟨w.heap.size, 0, none⟩) HC0.out.1).trans HC0.out.2.1; have k1 := (HS3.out.below.cell (p := ⟨w.heap.size, 1, none⟩) HC0.out.1).trans HC0.out.2.2; obtain ⟨x0, x1, x2, x3, x4, x5⟩ := HS3.out.dx; clear hb hW))
      go_ret
      exact ⟨by rfl, (((Below.refl _ _).alloc (Nat.le_refl _) _).trans (HB1.out.mono (by simp))).trans (HS3.out.below.mono (Nat.le_of_lt HC0.out.1))⟩
    | succ g =>
      have t0 : (k : Int) ≤ (n : Int) % 8 := by omega
      have t1 : ¬ (n : Int) % 8 < (k : Int) := by omega
      generalize hnl : fs.length = nl at *
      clear hfs hk
      go_wp2_with (go_at_call 11; go_loud (refine (HSV.out _ _ fs (HFS.out.imp And.left id) HSX.out.files).mono ?_; rintro e w2 ⟨v2, rfl, hf, hh, hb⟩; obtain ⟨a2, c2, rfl⟩ : ∃ a c, v2 = .slice a 1 c := files_slice hf; have hW : Below w2.heap.size w2 (w2.alloc (.cells #[.slice a2 1 c2, .bool false, .int .i64 (-1)] 24)) := (Below.refl _ _).alloc (Nat.le_refl _) _; have HS3 := Lib.hid ((HSX.out.keep hb).keep hW); have HF3 := Lib.hid (hf.al (.cells #[.slice a2 1 c2, .bool false, .int .i64 (-1)] 24)); have HH3 : Hid (Hi (w1.heap.size + 1) (.slice a2 1 c2)) := hh _ HSX.out.hi (hi_none _ _ _); have k0 := (HS3.out.below.cell (p := ⟨w.heap.size, 0, none⟩) HC0.out.1).trans HC0.out.2.1; have k1 := (HS3.out.below.cell (p := ⟨w.heap.size, 1, none⟩) HC0.out.1).trans HC0.out.2.2; obtain ⟨x0, x1, x2, x3, x4, x5⟩ := HS3.out.dx; clear hb hW hf hh))
      go_roundg g
      case measure => omega
      case rel => exact ⟨k + 1, a2, c2, [fH d], .inr rfl, by have := HK.out; omega, by go_num, HS3.out.move HF3.out HH3.out⟩
theorem hardAgain (t v n : Int) (h : ((Lit.int .u64 t).wf = true) ∧ (Lit.int .i64 v).wf = true) (hn : (Lit.int .u8 n).wf = true) (w : World) :
    Calls Try.prog 7 #[.agg #[.int .u64 t, .int .i64 v], .int .u8 n] w fun e w' => e = .returned (.bool true) ∧ Below w.heap.size w w' := by
  have h1 : 0 ≤ t ∧ t ≤ 18446744073709551615 := by simpa [Lit.wf, IntKind.min, IntKind.max, IntKind.signed, IntKind.bits] using h.1
  have h3 : 0 ≤ n ∧ n ≤ 255 := by simpa [Lit.wf, IntKind.min, IntKind.max, IntKind.signed, IntKind.bits] using hn
  obtain ⟨t, rfl⟩ := Int.eq_ofNat_of_zero_le h1.1
  obtain ⟨n, rfl⟩ := Int.eq_ofNat_of_zero_le h3.1
  by_cases hv : Hd.chkH v = 0
  · have h7 : 0 ≤ v ∧ v ≤ 7 := by unfold Hd.chkH at hv; split at hv <;> (try split at hv) <;> omega
    obtain ⟨v, rfl⟩ := Int.eq_ofNat_of_zero_le h7.1
    exact hardAgain_ok t v n (by omega) (by omega) (by omega) w
  · exact hardAgain_bad t v n (by omega) hv w
end Dk
end Go.Proofs.Ytpncflgcfndhmaa
