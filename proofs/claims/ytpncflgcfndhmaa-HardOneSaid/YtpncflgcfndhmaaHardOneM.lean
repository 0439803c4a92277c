/-
  Merged: HardMath, HardTwo, HardOneL.
-/
import Derived.Test.YtpncflgcfndhmaaHardC
import Derived.Test.YtpncflgcfndhmaaDiskTail
import Derived.Laws.StructEq
/- SAVING at any right disk, with any fuse: what stands there then, and behind a crash. -/
namespace Go.Proofs.Ytpncflgcfndhmaa
open Go.RowKit Go.Lib Go.Sort
namespace Dk
/-- What stands behind the first k changes of a save of da at the right disk fs. -/
structure Sq (S : Nat) (fs : List Fl) (da : ByteArray) (k : Nat) (o : Out) : Prop where
  chk : chkN o.fs = 0
  small : ∀ f ∈ o.fs, f.da.size ≤ S
  lo : -9223372036854775808 ≤ o.fu
  hi : o.fu ≤ 9223372036854775807
  up : o.r = 0 → o.dn = false
  other : ∀ nm, nm ≠ nT → nm ≠ nH → look o.fs nm = look fs nm
  keep : k < 4 ∨ o.r ≠ 0 → look o.fs nH = look fs nH
  s1 : k = 1 → o.r = 0 → look o.fs nT = none ∧ o.fs.length ≤ fs.length
  s2 : k = 2 → o.r = 0 → look o.fs nT = some ⟨nT, da, 0⟩
  s3 : k = 3 → o.r = 0 → look o.fs nT = some ⟨nT, da, (da.size : Nat)⟩
  s4 : k = 4 → o.r = 0 → look o.fs nH = some ⟨nH, da, (da.size : Nat)⟩
  why : o.r = 0 ∨ o.r = 8 ∨ (o.r = 11 ∧ 4096 ≤ fs.length)
theorem nHT : nH ≠ nT := fun e => by have := eHT; rw [e] at this; simp at this
theorem fu_lo {fu : Int} (h : -9223372036854775808 ≤ fu) : -9223372036854775808 ≤ (if 0 < fu then fu - 1 else fu) := by split <;> omega
theorem fu_hi {fu : Int} (h : fu ≤ 9223372036854775807) : (if 0 < fu then fu - 1 else fu) ≤ 9223372036854775807 := by split <;> omega
theorem outO_up {fs ch : List Fl} {fu : Int} {r : Nat} {ad : Bool} (h : chkN fs = 0) : outO fs false fu r ch ad = if r = 0 then (if fu = 0 then ⟨if ad then ch else fs, true, 0, 8⟩ else ⟨ch, false, if 0 < fu then fu - 1 else fu, 0⟩) else ⟨fs, false, fu, r⟩ := by
  unfold outO; rw [if_pos h, if_neg (by simp)]
theorem look_lt {fs : List Fl} {nm : ByteArray} {f : Fl} (h : look fs nm = some f) : idxN fs nm < fs.length := (List.getElem?_eq_some_iff.1 h).1
theorem look_ge {fs : List Fl} {nm : ByteArray} (h : look fs nm = none) : ¬ idxN fs nm < fs.length := fun h1 => by unfold look at h; rw [List.getElem?_eq_getElem h1] at h; cases h
theorem Sq.stop {S : Nat} {fs : List Fl} {da : ByteArray} {k : Nat} {o : Out} (h : Sq S fs da k o) (hr : o.r ≠ 0) (j : Nat) : Sq S fs da j o where
  chk := h.chk
  small := h.small
  lo := h.lo
  hi := h.hi
  up := h.up
  other := h.other
  keep := fun _ => h.keep (.inr hr)
  s1 := fun _ e => absurd e hr
  s2 := fun _ e => absurd e hr
  s3 := fun _ e => absurd e hr
  s4 := fun _ e => absurd e hr
  why := h.why
theorem sq1 (S : Nat) (fs : List Fl) (da : ByteArray) (fu : Int) (h0 : chkN fs = 0) (hs : ∀ f ∈ fs, f.da.size ≤ S) (hlo : -9223372036854775808 ≤ fu) (hhi : fu ≤ 9223372036854775807) : Sq S fs da 1 (rw1 nT fs false fu) := by
  obtain ⟨h4, hok⟩ := chk_fine fs h0
  unfold rw1
  cases hl : look fs nT with
  | none =>
    rw [if_pos (rd_none h0 hl).2]
    exact ⟨h0, hs, hlo, hhi, fun _ => rfl, fun _ _ _ => rfl, fun _ => rfl, fun _ _ => ⟨hl, Nat.le_refl _⟩, fun e => by omega, fun e => by omega, fun e => by omega, .inl rfl⟩
  | some f =>
    have hn := look_lt hl
    rw [if_neg (by rw [(rd_some h0 hl).2]; omega)]
    unfold drpO
    have hr : rsN fs nT = 0 := if_pos hn
    rw [outO_up h0, hr, if_pos rfl]
    have hok2 := del_ok hok (idxN fs nT)
    have hel : (fs.eraseIdx (idxN fs nT)).length = fs.length - 1 := List.length_eraseIdx_of_lt hn
    split
    · exact ⟨h0, hs, by show (-9223372036854775808 : Int) ≤ 0; omega, by show (0 : Int) ≤ 9223372036854775807; omega, (fun e => by cases e), fun _ _ _ => rfl, fun _ => rfl, (fun _ e => by cases e), fun e => by omega, fun e => by omega, fun e => by omega, .inr (.inl rfl)⟩
    · exact ⟨chk_of (by show (fs.eraseIdx _).length ≤ _; omega) hok2, fun x hx => hs x (List.mem_of_mem_eraseIdx hx), fu_lo hlo, fu_hi hhi, fun _ => rfl, fun nm hne _ => look_del hok nT nm hn hne, fun _ => look_del hok nT nH hn nHT, fun _ _ => ⟨look_del_self hok nT hn, by show (fs.eraseIdx _).length ≤ _; omega⟩, fun e => by omega, fun e => by omega, fun e => by omega, .inl rfl⟩
theorem sq2 (S : Nat) (hS : 24 ≤ S) (fs : List Fl) (da : ByteArray) (hda : da.size ≤ 24) (o : Out) (h : Sq S fs da 1 o) (hr : o.r = 0) : Sq S fs da 2 (addO o.fs o.dn o.fu nT da) := by
  obtain ⟨hl, hlen⟩ := h.s1 rfl hr
  obtain ⟨h4, hok⟩ := chk_fine _ h.chk
  have hn := look_ge hl
  have hF : addF o.fs nT da = ⟨nT, da, 0⟩ := by unfold addF; rw [hl]
  rw [h.up hr]
  unfold addO
  rw [outO_up h.chk, hF]
  have hh : hasN o.fs nT = false := by unfold hasN; simpa using hn
  have hra : raN o.fs.length nT (hasN o.fs nT) = if 4096 ≤ o.fs.length then 11 else 0 := by unfold raN; rw [okT', if_pos rfl, hh, if_neg (by simp)]
  rw [hra]
  have hpl : (putF o.fs ⟨nT, da, 0⟩).length = o.fs.length + 1 := by rw [put_len _ hok]; exact if_neg hn
  by_cases hful : 4096 ≤ o.fs.length
  · rw [if_pos hful, if_neg (by omega)]
    exact ⟨h.chk, h.small, h.lo, h.hi, (fun e => by cases e), h.other, fun _ => h.keep (.inl (by omega)), fun e => by omega, (fun _ e => by cases e), fun e => by omega, fun e => by omega, .inr (.inr ⟨rfl, by omega⟩)⟩
  · rw [if_neg hful, if_pos rfl]
    have hp : chkN (putF o.fs ⟨nT, da, 0⟩) = 0 := chk_of (by omega) (put_ok hok _ ⟨by show (0 : Int) ≤ 0; omega, by show (0 : Int) ≤ (da.size : Nat); omega⟩)
    have hps : ∀ f ∈ putF o.fs ⟨nT, da, 0⟩, f.da.size ≤ S := fun f hf => by
      rcases (put_mem hok _ f).1 hf with rfl | ⟨hf, -⟩
      · show da.size ≤ S; omega
      · exact h.small f hf
    have hoth : ∀ nm, nm ≠ nT → look (putF o.fs ⟨nT, da, 0⟩) nm = look o.fs nm := fun nm hne => look_put_ne hok ⟨nT, da, 0⟩ nm hne
    split
    · exact ⟨hp, hps, by show (-9223372036854775808 : Int) ≤ 0; omega, by show (0 : Int) ≤ 9223372036854775807; omega, (fun e => by cases e), fun nm h1 h2 => (hoth nm h1).trans (h.other nm h1 h2), fun _ => (hoth nH nHT).trans (h.keep (.inl (by omega))), fun e => by omega, (fun _ e => by cases e), fun e => by omega, fun e => by omega, .inr (.inl rfl)⟩
    · exact ⟨hp, hps, fu_lo h.lo, fu_hi h.hi, fun _ => rfl, fun nm h1 h2 => (hoth nm h1).trans (h.other nm h1 h2), fun _ => (hoth nH nHT).trans (h.keep (.inl (by omega))), fun e => by omega, fun _ _ => look_put hok ⟨nT, da, 0⟩, fun e => by omega, fun e => by omega, .inl rfl⟩
theorem sq3 (S : Nat) (hS : 24 ≤ S) (fs : List Fl) (da : ByteArray) (hda : da.size ≤ 24) (o : Out) (h : Sq S fs da 2 o) (hr : o.r = 0) : Sq S fs da 3 (synO o.fs o.dn o.fu nT) := by
  have hl := h.s2 rfl hr
  obtain ⟨h4, hok⟩ := chk_fine _ h.chk
  have hn := look_lt hl
  have hF : synF o.fs nT = ⟨nT, da, (da.size : Nat)⟩ := by unfold synF; rw [hl]
  rw [h.up hr]
  unfold synO
  have hrs : rsN o.fs nT = 0 := if_pos hn
  rw [outO_up h.chk, hF, hrs, if_pos rfl]
  have hpl : (putF o.fs ⟨nT, da, (da.size : Nat)⟩).length = o.fs.length := by rw [put_len _ hok]; exact if_pos hn
  have hp : chkN (putF o.fs ⟨nT, da, (da.size : Nat)⟩) = 0 := chk_of (by omega) (put_ok hok _ ⟨by show (0 : Int) ≤ (da.size : Nat); omega, Int.le_refl _⟩)
  have hps : ∀ f ∈ putF o.fs ⟨nT, da, (da.size : Nat)⟩, f.da.size ≤ S := fun f hf => by
    rcases (put_mem hok _ f).1 hf with rfl | ⟨hf, -⟩
    · show da.size ≤ S; omega
    · exact h.small f hf
  have hoth : ∀ nm, nm ≠ nT → look (putF o.fs ⟨nT, da, (da.size : Nat)⟩) nm = look o.fs nm := fun nm hne => look_put_ne hok ⟨nT, da, (da.size : Nat)⟩ nm hne
  split
  · exact ⟨h.chk, h.small, by show (-9223372036854775808 : Int) ≤ 0; omega, by show (0 : Int) ≤ 9223372036854775807; omega, (fun e => by cases e), h.other, fun _ => h.keep (.inl (by omega)), fun e => by omega, fun e => by omega, (fun _ e => by cases e), fun e => by omega, .inr (.inl rfl)⟩
  · exact ⟨hp, hps, fu_lo h.lo, fu_hi h.hi, fun _ => rfl, fun nm h1 h2 => (hoth nm h1).trans (h.other nm h1 h2), fun _ => (hoth nH nHT).trans (h.keep (.inl (by omega))), fun e => by omega, fun e => by omega, fun _ _ => look_put hok ⟨nT, da, (da.size : Nat)⟩, fun e => by omega, .inl rfl⟩
theorem sq4 (S : Nat) (hS : 24 ≤ S) (fs : List Fl) (da : ByteArray) (hda : da.size ≤ 24) (o : Out) (h : Sq S fs da 3 o) (hr : o.r = 0) : Sq S fs da 4 (swpO o.fs o.dn o.fu nT nH) := by
  have hl := h.s3 rfl hr
  obtain ⟨h4, hok⟩ := chk_fine _ h.chk
  have hn := look_lt hl
  have hF : swpF o.fs nT nH = ⟨nH, da, (da.size : Nat)⟩ := by unfold swpF; rw [hl]
  rw [h.up hr]
  unfold swpO
  have hrw : rwN o.fs nT nH = 0 := by
    unfold rwN
    rw [show o.fs[idxN o.fs nT]? = some ⟨nT, da, (da.size : Nat)⟩ from hl]
    show (if ((da.size : Nat) : Int) < (da.size : Nat) then 9 else if nmOk nH = true then 0 else 5) = 0
    rw [if_neg (by omega), if_pos okH]
  rw [outO_up h.chk, hF, hrw, if_pos rfl]
  have hok2 := del_ok hok (idxN o.fs nT)
  have hel : (o.fs.eraseIdx (idxN o.fs nT)).length = o.fs.length - 1 := List.length_eraseIdx_of_lt hn
  have hpl : (putF (o.fs.eraseIdx (idxN o.fs nT)) ⟨nH, da, (da.size : Nat)⟩).length ≤ o.fs.length := by rw [put_len _ hok2]; split <;> omega
  have hp : chkN (putF (o.fs.eraseIdx (idxN o.fs nT)) ⟨nH, da, (da.size : Nat)⟩) = 0 := chk_of (by omega) (put_ok hok2 _ ⟨by show (0 : Int) ≤ (da.size : Nat); omega, Int.le_refl _⟩)
  have hps : ∀ f ∈ putF (o.fs.eraseIdx (idxN o.fs nT)) ⟨nH, da, (da.size : Nat)⟩, f.da.size ≤ S := fun f hf => by
    rcases (put_mem hok2 _ f).1 hf with rfl | ⟨hf, -⟩
    · show da.size ≤ S; omega
    · exact h.small f (List.mem_of_mem_eraseIdx hf)
  have hoth : ∀ nm, nm ≠ nT → nm ≠ nH → look (putF (o.fs.eraseIdx (idxN o.fs nT)) ⟨nH, da, (da.size : Nat)⟩) nm = look o.fs nm := fun nm h1 h2 => (look_put_ne hok2 ⟨nH, da, (da.size : Nat)⟩ nm h2).trans (look_del hok nT nm hn h1)
  split
  · exact ⟨h.chk, h.small, by show (-9223372036854775808 : Int) ≤ 0; omega, by show (0 : Int) ≤ 9223372036854775807; omega, (fun e => by cases e), h.other, fun _ => h.keep (.inl (by omega)), fun e => by omega, fun e => by omega, fun e => by omega, (fun _ e => by cases e), .inr (.inl rfl)⟩
  · exact ⟨hp, hps, fu_lo h.lo, fu_hi h.hi, fun _ => rfl, fun nm h1 h2 => (hoth nm h1 h2).trans (h.other nm h1 h2), (fun e => by rcases e with e | e; omega; exact absurd rfl e), fun e => by omega, fun e => by omega, fun e => by omega, fun _ _ => look_put hok2 ⟨nH, da, (da.size : Nat)⟩, .inl rfl⟩
theorem sq_all (S : Nat) (hS : 24 ≤ S) (fs : List Fl) (da : ByteArray) (hda : da.size ≤ 24) (fu : Int) (h0 : chkN fs = 0) (hs : ∀ f ∈ fs, f.da.size ≤ S) (hlo : -9223372036854775808 ≤ fu) (hhi : fu ≤ 9223372036854775807) :
    Sq S fs da 1 (seqO nH nT da fs false fu 1) ∧ Sq S fs da 2 (seqO nH nT da fs false fu 2) ∧ Sq S fs da 3 (seqO nH nT da fs false fu 3) ∧ Sq S fs da 4 (seqO nH nT da fs false fu 4) := by
  have h1 : Sq S fs da 1 (seqO nH nT da fs false fu 1) := by
    rw [seq_succ]
    show Sq S fs da 1 (thenO ⟨fs, false, fu, 0⟩ (stp nH nT da 0))
    rw [thenO_ok rfl]
    exact sq1 S fs da fu h0 hs hlo hhi
  have h2 : Sq S fs da 2 (seqO nH nT da fs false fu 2) := by
    rw [seq_succ]
    by_cases hr : (seqO nH nT da fs false fu 1).r = 0
    · rw [thenO_ok hr]; exact sq2 S hS fs da hda _ h1 hr
    · rw [thenO_bad hr]; exact h1.stop hr 2
  have h3 : Sq S fs da 3 (seqO nH nT da fs false fu 3) := by
    rw [seq_succ]
    by_cases hr : (seqO nH nT da fs false fu 2).r = 0
    · rw [thenO_ok hr]; exact sq3 S hS fs da hda _ h2 hr
    · rw [thenO_bad hr]; exact h2.stop hr 3
  refine ⟨h1, h2, h3, ?_⟩
  rw [seq_succ]
  by_cases hr : (seqO nH nT da fs false fu 3).r = 0
  · rw [thenO_ok hr]; exact sq4 S hS fs da hda _ h3 hr
  · rw [thenO_bad hr]; exact h3.stop hr 4
theorem chk_bd {fs : List Fl} (h : chkN fs = 0) : Bd fs := ok_bd (chk_fine fs h).2
theorem small_fine {S : Nat} (hS : S ≤ 4611686018427387904) {fs : List Fl} (h : chkN fs = 0) (hs : ∀ f ∈ fs, f.da.size ≤ S) : Fine fs := fun f hf => by
  have h1 := hs f hf
  have h2 := chk_bd h f hf
  exact ⟨by unfold maxLen; omega, by omega, by omega⟩
theorem Sq.inv {S : Nat} (hS : S ≤ 4611686018427387904) {fs : List Fl} {da : ByteArray} (hda : da.size ≤ 24) {k : Nat} {o : Out} (h : Sq S fs da k o) : Inv da.size o where
  lo := h.lo
  hi := h.hi
  fine := small_fine hS h.chk h.small
  len := by have := (chk_fine _ h.chk).1; omega
  room := fun f hf => by have := h.small f hf; omega
/-- Save at a right disk. -/
theorem save_any (S : Nat) (hS : 24 ≤ S) (hS2 : S ≤ 4611686018427387904) (dv : Value) (fs : List Fl) (fu : Int) (h0 : chkN fs = 0) (hs : ∀ f ∈ fs, f.da.size ≤ S) (hlo : -9223372036854775808 ≤ fu) (hhi : fu ≤ 9223372036854775807) (t v : Nat) (ht : t < 2 ^ 64) (hv : v ≤ 7) (w : World) (hf : Files w w.heap.size dv fs) :
    Calls Try.prog 11 #[.agg #[dv, .bool false, .int .i64 fu], .agg #[.int .u64 (t : Nat), .int .i64 (v : Nat)]] w (DoW w (.slice none 0 0) (seqO nH nT (encB t v) fs false fu 4).fs (seqO nH nT (encB t v) fs false fu 4).dn (seqO nH nT (encB t v) fs false fu 4).fu (seqO nH nT (encB t v) fs false fu 4).r) := by
  have hda := encB_size t v ht hv
  obtain ⟨h1, h2, h3, h4⟩ := sq_all S hS fs (encB t v) hda fu h0 hs hlo hhi
  have hi0 : Inv (encB t v).size ⟨fs, false, fu, 0⟩ := ⟨hlo, hhi, small_fine hS2 h0 hs, by have := (chk_fine _ h0).1; show fs.length ≤ _; omega, fun f hf => by have := hs f hf; omega⟩
  have hi : ∀ k, k ≤ 4 → Inv (encB t v).size (seqO nH nT (encB t v) fs false fu k) := by
    intro k hk
    have h5 : k = 0 ∨ k = 1 ∨ k = 2 ∨ k = 3 ∨ k = 4 := by omega
    rcases h5 with rfl | rfl | rfl | rfl | rfl
    · exact hi0
    · exact h1.inv hS2 hda
    · exact h2.inv hS2 hda
    · exact h3.inv hS2 hda
    · exact h4.inv hS2 hda
  have hA := all4 nH nT (encB t v) fs false fu (by omega) hi
  refine save_ok dv false fu fs t v (seqO nH nT (encB t v) fs false fu 4) ht hv (fun x g pF pT pC hx hr => ?_) w hf
  exact do_rewrite nH nT (encB t v) (seqO nH nT (encB t v) fs false fu) hA rfl (fun k hk hr => by
    obtain ⟨j, e⟩ : ∃ j, 4 = k + j := ⟨4 - k, by omega⟩
    rw [show seqO nH nT (encB t v) fs false fu 4 = seqO nH nT (encB t v) fs false fu (k + j) by rw [← e]]
    exact seq_stop nH nT (encB t v) fs false fu k hr j) (by show fs.length ≤ 4096; exact (chk_fine _ h0).1) hi0.fine dv g pF pT pC x hx hr
theorem crash_none {fs : List Fl} {ks : List Int} {nm : ByteArray} (h0 : chkN fs = 0) (hl : look fs nm = none) : chkN (crS fs ks fs.length) = 0 ∧ look (crS fs ks fs.length) nm = none := by
  have h9 : chkN (crS fs ks fs.length) = 0 := chk_same fs _ h0 (crS_len _ _ _) (fun i i1 i2 => by obtain ⟨D, e, -⟩ := crS_each fs ks h0 i i2 i1; rw [e]) (fun i i1 => by obtain ⟨D, e, -⟩ := crS_each fs ks h0 i (by rw [crS_len] at i1; exact i1) i1; rw [e]; simp)
  refine ⟨h9, look_none.2 fun f hf => ?_⟩
  obtain ⟨i, hi, rfl⟩ := List.getElem_of_mem hf
  have hi2 : i < fs.length := by rw [crS_len] at hi; exact hi
  obtain ⟨D, e, -⟩ := crS_each fs ks h0 i hi2 hi
  rw [e]
  exact look_none.1 hl fs[i] (List.getElem_mem hi2)
theorem crash_small {S : Nat} {fs : List Fl} {ks : List Int} (h0 : chkN fs = 0) (hs : ∀ f ∈ fs, f.da.size ≤ S) : ∀ f ∈ crS fs ks fs.length, f.da.size ≤ S ∧ f.sy = (f.da.size : Nat) := by
  intro f hf
  obtain ⟨i, hi, rfl⟩ := List.getElem_of_mem hf
  have hi2 : i < fs.length := by rw [crS_len] at hi; exact hi
  obtain ⟨D, e, h1, h2, h3⟩ := crS_each fs ks h0 i hi2 hi
  rw [e]
  have := hs _ (List.getElem_mem hi2)
  exact ⟨by show D.size ≤ S; omega, rfl⟩
theorem crash_chk {fs : List Fl} {ks : List Int} (h0 : chkN fs = 0) : chkN (crS fs ks fs.length) = 0 := by
  cases hl : look fs nT with
  | none => exact (crash_none h0 hl).1
  | some f => exact chk_same fs _ h0 (crS_len _ _ _) (fun i i1 i2 => by obtain ⟨D, e, -⟩ := crS_each fs ks h0 i i2 i1; rw [e]) (fun i i1 => by obtain ⟨D, e, -⟩ := crS_each fs ks h0 i (by rw [crS_len] at i1; exact i1) i1; rw [e]; simp)
theorem ld_look {fs gs : List Fl} (h0 : chkN fs = 0) (h1 : chkN gs = 0) (hl : look gs nH = look fs nH) : ldT gs false = ldT fs false ∧ ldV gs false = ldV fs false ∧ ldE gs false = ldE fs false := by
  have hh : nHd = nH := rfl
  have key : rdS gs false nHd = rdS fs false nHd ∧ rdE gs false nHd = rdE fs false nHd := by
    rw [hh]
    cases hf : look fs nH with
    | none =>
      rw [hf] at hl
      obtain ⟨a1, a2⟩ := rd_none h0 hf
      obtain ⟨b1, b2⟩ := rd_none h1 hl
      exact ⟨b1.trans a1.symm, b2.trans a2.symm⟩
    | some f =>
      rw [hf] at hl
      obtain ⟨a1, a2⟩ := rd_some h0 hf
      obtain ⟨b1, b2⟩ := rd_some h1 hl
      exact ⟨b1.trans a1.symm, b2.trans a2.symm⟩
  unfold ldT ldV ldE
  rw [key.1, key.2]
  exact ⟨rfl, rfl, rfl⟩
/-- What is loaded behind a save, whatever the power took, and a crash. -/
theorem save_crash (S : Nat) (hS : 24 ≤ S) (fs : List Fl) (fu : Int) (ks : List Int) (h0 : chkN fs = 0) (hs : ∀ f ∈ fs, f.da.size ≤ S ∧ f.sy = (f.da.size : Nat)) (hlo : -9223372036854775808 ≤ fu) (hhi : fu ≤ 9223372036854775807) (t v : Nat) (ht : t < 2 ^ 64) (hv : v ≤ 7) (o : Out) (ho : o = seqO nH nT (encB t v) fs false fu 4) :
    chkN o.fs = 0 ∧ chkN (crS o.fs ks o.fs.length) = 0 ∧ (o.r = 0 ∨ o.r = 8 ∨ (o.r = 11 ∧ 4096 ≤ fs.length)) ∧
    (o.r = 0 → ldT (crS o.fs ks o.fs.length) false = t ∧ ldV (crS o.fs ks o.fs.length) false = v ∧ ldE (crS o.fs ks o.fs.length) false = 0) ∧
    (¬ o.r = 0 → ldT (crS o.fs ks o.fs.length) false = ldT fs false ∧ ldV (crS o.fs ks o.fs.length) false = ldV fs false ∧ ldE (crS o.fs ks o.fs.length) false = ldE fs false) := by
  have hda := encB_size t v ht hv
  have hq := (sq_all S hS fs (encB t v) hda fu h0 (fun f hf => (hs f hf).1) hlo hhi).2.2.2
  rw [← ho] at hq
  have hc : chkN (crS o.fs ks o.fs.length) = 0 := crash_chk hq.chk
  refine ⟨hq.chk, hc, hq.why, fun hr => ?_, fun hr => ?_⟩
  · have hl := hq.s4 rfl hr
    have hl2 := (crash_look (ks := ks) hq.chk hl rfl).2
    obtain ⟨e1, e2, e3⟩ := load_enc t v ht hv
    have hH : look [fH (encB t v)] nH = some (fH (encB t v)) := by unfold look; rw [idxHH]; rfl
    obtain ⟨l1, l2, l3⟩ := ld_look (chkH1 (encB t v)) hc (hl2.trans hH.symm)
    exact ⟨l1.trans e1, l2.trans e2, l3.trans e3⟩
  · refine ld_look h0 hc ?_
    have hk := hq.keep (.inr hr)
    cases hl : look fs nH with
    | none => rw [hl] at hk; exact (crash_none hq.chk hk).2
    | some f =>
      rw [hl] at hk
      exact (crash_look (ks := ks) hq.chk hk ((hs f (look_mem hl).1).2)).2
end Dk
end Go.Proofs.Ytpncflgcfndhmaa

/- LAW: HardTwo. -/
namespace Go.Proofs.Ytpncflgcfndhmaa
open Go.RowKit Go.Lib Go.Sort
namespace Dk
theorem St.new {w x : World} {v : Value} {dn : Bool} {fu : Int} {fs : List Fl} (hb : Below w.heap.size w x) (hf : Files x x.heap.size v fs) : St w x.heap.size (x.alloc (.cells #[v, .bool dn, .int .i64 fu] 24)) v dn fu fs :=
  ⟨hb.size, by simp, hb.alloc hb.size _, Dx.made _ _ _ _, hf.al _⟩
theorem files_lt {w : World} {B : Nat} {v : Value} {fs : List Fl} (h : Files w B v fs) (hn : 0 < fs.length) : ∀ b off n c, v = .slice (some ⟨b, off, none⟩) n c → b < B := by
  obtain ⟨a, c, rfl, -, -, h3⟩ := h
  obtain ⟨b, off, rfl, hlt, -⟩ := h3 hn
  intro b' off' n c' e
  simp only [Value.slice.injEq, Option.some.injEq, Addr.mk.injEq] at e
  omega
theorem St.fuse {w x : World} {B : Nat} {v : Value} {dn : Bool} {fu : Int} {fs : List Fl} (h : St w B x v dn fu fs) (hne : ∀ b off c, v = .slice (some ⟨b, off, none⟩) fs.length c → b ≠ B) (f : Int) : St w B (x.setCell ⟨B, 2, none⟩ (.int .i64 f)) v dn f fs := by
  obtain ⟨h1, h2, h3, ⟨d0, d1, d2, d3, d4, d5⟩, h5⟩ := h
  refine ⟨h1, by simpa using h2, bset h3 h1 _, ⟨?_, ?_, ?_, ?_, ?_, ?_⟩, h5.st _ _ hne⟩
  · exact (World.cell?_setCell_other _ _ _ _ (by simp)).trans d0
  · exact (World.cell?_setCell_other _ _ _ _ (by simp)).trans d1
  · exact World.cell?_setCell_same _ _ _ d2
  · exact (World.frozen?_setCell _ _ _ _).trans d3
  · exact (World.frozen?_setCell _ _ _ _).trans d4
  · exact (World.frozen?_setCell _ _ _ _).trans d5
def eqHd (t1 v1 t2 v2 : Int) : Bool := decide (t1 = t2) && decide (v1 = v2)
set_option maxRecDepth 100000 in
theorem eql_hard (t1 v1 t2 v2 : Int) (w : World) : (binOp .eql 27 (.agg #[.int .u64 t1, .int .i64 v1]) (.agg #[.int .u64 t2, .int .i64 v2])).run Try.prog w = .ok (.bool (eqHd t1 v1 t2 v2)) w := by
  have u3 := Try.underlying3
  have u9 := Try.underlying25
  have a3 := Try.isAgg3
  have a9 := Try.isAgg25
  have z3 := Try.sizeOf3
  have z9 := Try.sizeOf25
  have hS : Try.prog.underlying 27 = some (.struct (Try.prog.fieldsOf 27)) := by kernel_rfl
  have hp : Try.prog.stoodInHeld 27 = false := by kernel_rfl
  rw [run_eql_struct, show (10000 : Nat) = 9999 + 1 from rfl, run_equalIn_agg w 9999 27 _ _ hS hp]
  simp only [Program.fieldsOf, Try.underlying27]
  go_simp
  by_cases h1 : t1 = t2 <;> by_cases h2 : v1 = v2 <;> simp [h1, h2, eqHd]
theorem guard_hard : Try.prog.eqGuardType Try.prog.depth 27 = false := by kernel_rfl
theorem eqHd_self (t v : Int) : eqHd t v t v = true := by simp [eqHd]
theorem two_boxes {w w1 : World} {a b : Array Value} {t u : TypeId} (hb : Below ((w.alloc (.cells a t)).alloc (.cells b u)).heap.size ((w.alloc (.cells a t)).alloc (.cells b u)) w1) :
    (∀ i, w1.cell? ⟨w.heap.size, i, none⟩ = a[i]?) ∧ (∀ i, w1.cell? ⟨w.heap.size + 1, i, none⟩ = b[i]?) ∧ Below w.heap.size w w1 ∧ w.heap.size + 2 ≤ w1.heap.size := by
  refine ⟨fun i => ?_, fun i => ?_, (((Below.refl _ w).alloc (Nat.le_refl _) _).alloc (by simp) _).trans (hb.mono (by simp; omega)), by have := hb.size; simpa using this⟩
  · rw [hb.cell (by simp <;> omega)]; simp [go_sem]
  · rw [hb.cell (by simp)]; simp [go_sem]
def maxF (fu : Int) : Int := if fu < -1 then -1 else fu
set_option maxRecDepth 100000 in
set_option maxHeartbeats 8000000 in
theorem hardTwo_ok (ta va tb vb : Nat) (hta : ta < 2 ^ 64) (htb : tb < 2 ^ 64) (hva : va ≤ 7) (hvb : vb ≤ 7) (fu : Int) (hlo : -9223372036854775808 ≤ fu) (hhi : fu ≤ 9223372036854775807) (kv : Value) (ks : List Int) (w : World) (hk : Ints w w.heap.size kv ks) :
    Calls Try.prog 6 #[.agg #[.int .u64 ta, .int .i64 va], .agg #[.int .u64 tb, .int .i64 vb], .int .i64 fu, kv] w fun e w' => e = .returned (.bool true) ∧ Below w.heap.size w w' := by
  have hsz := encB_size ta va hta hva
  have hmlo : -9223372036854775808 ≤ maxF fu := by unfold maxF; split <;> omega
  have hmhi : maxF fu ≤ 9223372036854775807 := by unfold maxF; split <;> omega
  have h24 : ∀ f ∈ [fH (encB ta va)], f.da.size ≤ 140737488355328 ∧ f.sy = (f.da.size : Nat) := mem1 ⟨by show (encB ta va).size ≤ _; omega, rfl⟩
  have HSA := Lib.hid (fun x => save_nil ta va hta hva x)
  have hsb := fun dv x hf => save_any 140737488355328 (by omega) (by omega) dv [fH (encB ta va)] (maxF fu) (chkH1 _) (fun f hf => (h24 f hf).1) hmlo hmhi tb vb htb hvb x hf
  obtain ⟨o, ho⟩ : ∃ o, o = seqO nH nT (encB tb vb) [fH (encB ta va)] false (maxF fu) 4 := ⟨_, rfl⟩
  have hsm := (sq_all 140737488355328 (by omega) [fH (encB ta va)] (encB tb vb) (encB_size tb vb htb hvb) (maxF fu) (chkH1 _) (fun f hf => (h24 f hf).1) hmlo hmhi).2.2.2.small
  obtain ⟨q1, q2, q3, q4, q5⟩ := save_crash 140737488355328 (by omega) [fH (encB ta va)] (maxF fu) ks (chkH1 _) h24 hmlo hmhi tb vb htb hvb o ho
  rw [← ho] at hsb hsm
  obtain ⟨e1, e2, e3⟩ := load_enc ta va hta hva
  rw [e1, e2, e3] at q5
  have HCS := Lib.hid (crash_small (ks := ks) q1 hsm)
  rcases o with ⟨f4, dn4, fu4, r4⟩
  simp only at hsb q1 q2 q3 q4 q5 HCS
  have HSB := Lib.hid hsb
  have hr11 : r4 = 0 ∨ r4 = 8 := by
    rcases q3 with h | h | ⟨-, h⟩
    · exact .inl h
    · exact .inr h
    · simp at h
  have HCR := Lib.hid (fun x v hv hki => crash_own v kv dn4 fu4 f4 ks x hv hki q1)
  generalize crS f4 ks f4.length = f5 at *
  have HFI := Lib.hid (small_fine (S := 140737488355328) (by omega) q2 (fun f hf => (HCS.out f hf).1))
  have HLE : Hid (f5.length ≤ 4611686018427387904) := by have := (chk_fine _ q2).1; show f5.length ≤ _; omega
  have hld := fun v x hv => load_any v false (-1) f5 x hv
  unfold LoadIs at hld
  have HG : Hid (∃ gt gv : Nat, (r4 = 0 → gt = tb ∧ gv = vb) ∧ (¬ r4 = 0 → gt = ta ∧ gv = va) ∧ ∀ v x, Files x x.heap.size v f5 → Calls Try.prog 9 #[.agg #[v, .bool false, .int .i64 (-1)]] x fun e w' => e = .returned (.tuple #[.agg #[.int .u64 gt, .int .i64 gv], .int .i64 0]) ∧ Below x.heap.size x w') := by
    refine ⟨ldT f5 false, ldV f5 false, fun h => ⟨(q4 h).1, (q4 h).2.1⟩, fun h => ⟨(q5 h).1, (q5 h).2.1⟩, fun v x hv => ?_⟩
    have h0 : ldE f5 false = 0 := by
      by_cases h : r4 = 0
      · exact (q4 h).2.2
      · exact (q5 h).2.2
    have := hld v x hv
    rw [h0] at this
    exact this
  obtain ⟨gt, gv, g0, g1, hgl⟩ := HG.out
  have HGL := Lib.hid hgl
  have HCB := Lib.hid (fun x => Hd.check_any (tb : Nat) (vb : Nat) x)
  have hcb : Hd.chkH (vb : Nat) = 0 := by unfold Hd.chkH; rw [if_neg (by omega), if_neg (by omega)]
  rw [hcb] at HCB
  have HK := Lib.hid hk
  have HQ1 := Lib.hid q1
  have G0 := Lib.hid g0
  have G1 := Lib.hid g1
  generalize encB ta va = da at *
  have gf := guard_hard
  have HEQ := Lib.hid (fun t1 v1 t2 v2 w => eql_hard t1 v1 t2 v2 w)
  clear hsz hmlo hmhi h24 hsb hsm q1 q2 q3 q4 q5 e1 e2 e3 hld HG hgl g0 g1 hcb ho hk HCS
  go_enter Try.func6, Try.ntmps6
  go_wp2_with fail
  refine (hlives _).mono ?_
  rintro e w1 ⟨rfl, hb⟩
  obtain ⟨c0, c1, hbw, hz1⟩ := two_boxes hb
  have HW1 := Lib.hid hbw
  have C0 := Lib.hid c0
  have C1 := Lib.hid c1
  clear hb hbw c1
  go_wp2_with fail
  refine (HSA.out _).mono ?_
  rintro e w2 ⟨v2, rfl, hf, -, hb⟩
  obtain ⟨a2, c2, rfl⟩ : ∃ a c, v2 = .slice a 1 c := files_slice hf
  have HS2 := Lib.hid (St.new (dn := false) (fu := -1) hb hf)
  have HNE : Hid (∀ b off c, Value.slice a2 1 c2 = .slice (some ⟨b, off, none⟩) [fH da].length c → b ≠ w2.heap.size) := fun b off c e => by have := files_lt hf (by simp) b off _ c e; omega
  have k1 : ∀ i, (w2.alloc (.cells #[.slice a2 1 c2, .bool false, .int .i64 (-1)] 24)).cell? ⟨w.heap.size + 1, i, none⟩ = #[.int .u64 tb, .int .i64 vb][i]? := fun i => (HS2.out.below.cell (by show w.heap.size + 1 < _; omega)).trans (C1.out i)
  clear hb hf c0
  go_wp2_with fail
  refine (HCB.out _).mono ?_
  rintro e w3 ⟨rfl, hb⟩
  have HS3 := Lib.hid (HS2.out.keep hb)
  clear hb k1
  obtain ⟨d0, d1, d2, d3, d4, d5⟩ := HS3.out.dx
  have HS4 : Hid (St w1 w2.heap.size (w3.setCell ⟨w2.heap.size, 2, none⟩ (.int .i64 (maxF fu))) (.slice a2 1 c2) false (maxF fu) [fH da]) := HS3.out.fuse HNE.out _
  have k1 : ∀ i, (w3.setCell ⟨w2.heap.size, 2, none⟩ (.int .i64 (maxF fu))).cell? ⟨w.heap.size + 1, i, none⟩ = #[.int .u64 tb, .int .i64 vb][i]? := fun i => (HS4.out.below.cell (by show w.heap.size + 1 < _; omega)).trans (C1.out i)
  have hmx : max fu (-1) = maxF fu := by unfold maxF; split <;> omega
  go_wp2_with fail
  refine (HSB.out _ _ HS4.out.files).mono ?_
  rintro e w4 ⟨v4, rfl, hf4, -, hb⟩
  obtain ⟨a4, c4, rfl⟩ := files_slice hf4
  have HB4 := Lib.hid (HS4.out.below.trans (hb.mono HS4.out.below.size))
  have HS5 := Lib.hid (St.new (w := w1) (dn := dn4) (fu := fu4) HB4.out hf4)
  have HK5 := Lib.hid (HK.out.on ((HW1.out.trans (HB4.out.mono (by omega))).alloc (Nat.le_trans (by omega : w.heap.size ≤ w1.heap.size) HB4.out.size) (.cells #[.slice a4 f4.length c4, .bool dn4, .int .i64 fu4] 24)))
  clear hb hf4 k1 d0 d1 d2 d3 d4 d5 hmx
  generalize f4.length = n4 at *
  go_wp2_with fail
  refine (HCR.out _ _ HS5.out.files HK5.out).mono ?_
  intro e w5 hd
  obtain ⟨v5, rfl, ⟨a5, c5, rfl⟩, hs, hS, _⟩ := HS5.out.step hd HFI.out HLE.out
  have HS6 := Lib.hid hS
  unfold st3 at HS6
  obtain ⟨d0, d1, d2, d3, d4, d5⟩ := hs.dx
  clear hd hs hS
  generalize f5.length = n5 at *
  go_wp2_with fail
  refine (HGL.out _ _ HS6.out.files).mono ?_
  rintro e w6 ⟨rfl, hb⟩
  have HB6 := Lib.hid (HS6.out.below.trans (hb.mono HS6.out.below.size))
  have HAL := Lib.hid (HB6.out.alloc HB6.out.size (.cells #[.int .u64 gt, .int .i64 gv] 27))
  have m0 : ∀ i, (w6.alloc (.cells #[.int .u64 gt, .int .i64 gv] 27)).cell? ⟨w.heap.size, i, none⟩ = #[.int .u64 ta, .int .i64 va][i]? := fun i => (HAL.out.cell (by show w.heap.size < _; omega)).trans (C0.out i)
  have m1 : ∀ i, (w6.alloc (.cells #[.int .u64 gt, .int .i64 gv] 27)).cell? ⟨w.heap.size + 1, i, none⟩ = #[.int .u64 tb, .int .i64 vb][i]? := fun i => (HAL.out.cell (by show w.heap.size + 1 < _; omega)).trans (C1.out i)
  have HW9 : Hid (Below w.heap.size w (w6.alloc (.cells #[.int .u64 gt, .int .i64 gv] 27))) := HW1.out.trans (HAL.out.mono (by omega))
  clear hb d0 d1 d2 d3 d4 d5
  by_cases hr : r4 = 0
  · obtain ⟨e5, e6⟩ := G0.out hr
    subst e5 e6 hr
    have heq := HEQ.out gt gv gt gv
    rw [eqHd_self] at heq
    clear hr11 HS5 HCR
    go_wp2
    go_ret
    exact ⟨rfl, HW9.out⟩
  · obtain ⟨e5, e6⟩ := G1.out hr
    have hr8 : r4 = 8 := by omega
    subst e5 e6 hr8
    have heq := HEQ.out gt gv gt gv
    rw [eqHd_self] at heq
    have heq2 := HEQ.out gt gv tb vb
    clear hr hr11 HS5 HCR
    generalize eqHd (gt : Int) (gv : Int) (tb : Int) (vb : Int) = q at heq2
    cases q
    · go_wp2
      go_ret
      exact ⟨rfl, HW9.out⟩
    · go_wp2
      go_ret
      exact ⟨rfl, HW9.out⟩
set_option maxRecDepth 100000 in
set_option maxHeartbeats 4000000 in
theorem hardTwo_bada (ta va tb vb : Int) (hva : Hd.chkH va ≠ 0) (fu : Int) (kv : Value) (w : World) :
    Calls Try.prog 6 #[.agg #[.int .u64 ta, .int .i64 va], .agg #[.int .u64 tb, .int .i64 vb], .int .i64 fu, kv] w fun e w' => e = .returned (.bool true) ∧ Below w.heap.size w w' := by
  have HSA := Lib.hid (fun x => save_bad ta va hva x)
  have HCA := Lib.hid (fun x => Hd.check_any ta va x)
  have hv1 : Hd.chkH va = 1 := by unfold Hd.chkH at hva ⊢; split <;> simp_all
  rw [hv1] at HSA HCA
  clear hva hv1
  go_enter Try.func6, Try.ntmps6
  go_wp2_with fail
  refine (hlives _).mono ?_
  rintro e w1 ⟨rfl, hb⟩
  obtain ⟨c0, c1, hbw, hz1⟩ := two_boxes hb
  have HW1 := Lib.hid hbw
  have C0 := Lib.hid c0
  clear hb hbw c1
  go_wp2_with fail
  refine (HSA.out _).mono ?_
  rintro e w2 ⟨v2, rfl, hf, hb⟩
  obtain ⟨a2, c2, rfl⟩ : ∃ a c, v2 = .slice a 0 c := files_slice hf
  have HB2 := Lib.hid (hb.alloc hb.size (.cells #[.slice a2 0 c2, .bool false, .int .i64 (-1)] 24))
  have k0 : ∀ i, (w2.alloc (.cells #[.slice a2 0 c2, .bool false, .int .i64 (-1)] 24)).cell? ⟨w.heap.size, i, none⟩ = #[.int .u64 ta, .int .i64 va][i]? := fun i => (HB2.out.cell (by show w.heap.size < _; omega)).trans (C0.out i)
  clear hb hf c0
  go_wp2_with fail
  refine (HCA.out _).mono ?_
  rintro e w3 ⟨rfl, hb⟩
  have HW3 := Lib.hid (HW1.out.trans ((HB2.out.trans (hb.mono HB2.out.size)).mono (by omega)))
  clear hb k0
  go_wp2
  go_ret
  exact ⟨rfl, HW3.out⟩
set_option maxRecDepth 100000 in
set_option maxHeartbeats 4000000 in
theorem hardTwo_badb (ta va : Nat) (tb vb : Int) (hta : ta < 2 ^ 64) (hva : va ≤ 7) (hvb : Hd.chkH vb ≠ 0) (fu : Int) (kv : Value) (w : World) :
    Calls Try.prog 6 #[.agg #[.int .u64 ta, .int .i64 va], .agg #[.int .u64 tb, .int .i64 vb], .int .i64 fu, kv] w fun e w' => e = .returned (.bool true) ∧ Below w.heap.size w w' := by
  have HSA := Lib.hid (fun x => save_nil ta va hta hva x)
  have HCA := Lib.hid (fun x => Hd.check_any (ta : Nat) (va : Nat) x)
  have HCB := Lib.hid (fun x => Hd.check_any tb vb x)
  have hv1 : Hd.chkH vb = 1 := by unfold Hd.chkH at hvb ⊢; split <;> simp_all
  have hv0 : Hd.chkH (va : Nat) = 0 := by unfold Hd.chkH; rw [if_neg (by omega), if_neg (by omega)]
  rw [hv1] at HCB
  rw [hv0] at HCA
  generalize encB ta va = da at *
  clear hvb hv1 hv0
  go_enter Try.func6, Try.ntmps6
  go_wp2_with fail
  refine (hlives _).mono ?_
  rintro e w1 ⟨rfl, hb⟩
  obtain ⟨c0, c1, hbw, hz1⟩ := two_boxes hb
  have HW1 := Lib.hid hbw
  have C0 := Lib.hid c0
  have C1 := Lib.hid c1
  clear hb hbw c1
  go_wp2_with fail
  refine (HSA.out _).mono ?_
  rintro e w2 ⟨v2, rfl, hf, -, hb⟩
  obtain ⟨a2, c2, rfl⟩ : ∃ a c, v2 = .slice a 1 c := files_slice hf
  have HB2 := Lib.hid (hb.alloc hb.size (.cells #[.slice a2 1 c2, .bool false, .int .i64 (-1)] 24))
  have k1 : ∀ i, (w2.alloc (.cells #[.slice a2 1 c2, .bool false, .int .i64 (-1)] 24)).cell? ⟨w.heap.size + 1, i, none⟩ = #[.int .u64 tb, .int .i64 vb][i]? := fun i => (HB2.out.cell (by show w.heap.size + 1 < _; omega)).trans (C1.out i)
  clear hb hf c0
  go_wp2_with fail
  refine (HCB.out _).mono ?_
  rintro e w3 ⟨rfl, hb⟩
  have HB3 := Lib.hid (HB2.out.trans (hb.mono HB2.out.size))
  have k0 : ∀ i, w3.cell? ⟨w.heap.size, i, none⟩ = #[.int .u64 ta, .int .i64 va][i]? := fun i => (HB3.out.cell (by show w.heap.size < _; omega)).trans (C0.out i)
  clear hb k1
  go_wp2_with fail
  refine (HCA.out _).mono ?_
  rintro e w4 ⟨rfl, hb⟩
  have HW4 := Lib.hid (HW1.out.trans ((HB3.out.trans (hb.mono HB3.out.size)).mono (by omega)))
  clear hb k0
  go_wp2
  go_ret
  exact ⟨rfl, HW4.out⟩
theorem hardTwo (ta va tb vb : Int) (ha : (Lit.int .u64 ta).wf = true ∧ (Lit.int .i64 va).wf = true) (hb : (Lit.int .u64 tb).wf = true ∧ (Lit.int .i64 vb).wf = true) (fu : Int) (hfu : (Lit.int .i64 fu).wf = true) (kv : Value) (ks : List Int) (w : World) (hk : Ints w w.heap.size kv ks) :
    Calls Try.prog 6 #[.agg #[.int .u64 ta, .int .i64 va], .agg #[.int .u64 tb, .int .i64 vb], .int .i64 fu, kv] w fun e w' => e = .returned (.bool true) ∧ Below w.heap.size w w' := by
  have h1 : 0 ≤ ta ∧ ta ≤ 18446744073709551615 := by simpa [Lit.wf, IntKind.min, IntKind.max, IntKind.signed, IntKind.bits] using ha.1
  have h2 : 0 ≤ tb ∧ tb ≤ 18446744073709551615 := by simpa [Lit.wf, IntKind.min, IntKind.max, IntKind.signed, IntKind.bits] using hb.1
  have h3 : -9223372036854775808 ≤ fu ∧ fu ≤ 9223372036854775807 := by simpa [Lit.wf, IntKind.min, IntKind.max, IntKind.signed, IntKind.bits] using hfu
  by_cases hva : Hd.chkH va = 0
  · have h7 : 0 ≤ va ∧ va ≤ 7 := by unfold Hd.chkH at hva; split at hva <;> (try split at hva) <;> omega
    obtain ⟨ta, rfl⟩ := Int.eq_ofNat_of_zero_le h1.1
    obtain ⟨va, rfl⟩ := Int.eq_ofNat_of_zero_le h7.1
    by_cases hvb : Hd.chkH vb = 0
    · have h8 : 0 ≤ vb ∧ vb ≤ 7 := by unfold Hd.chkH at hvb; split at hvb <;> (try split at hvb) <;> omega
      obtain ⟨tb, rfl⟩ := Int.eq_ofNat_of_zero_le h2.1
      obtain ⟨vb, rfl⟩ := Int.eq_ofNat_of_zero_le h8.1
      exact hardTwo_ok ta va tb vb (by omega) (by omega) (by omega) (by omega) fu h3.1 h3.2 kv ks w hk
    · exact hardTwo_badb ta va tb vb (by omega) (by omega) hvb fu kv w
  · exact hardTwo_bada ta va tb vb hva fu kv w
end Dk
end Go.Proofs.Ytpncflgcfndhmaa

/- LAW: HardOne. -/
namespace Go.Proofs.Ytpncflgcfndhmaa
open Go.RowKit Go.Lib Go.Sort
namespace Dk
set_option maxRecDepth 100000 in
set_option maxHeartbeats 8000000 in
theorem hardOne_go (v0 : Value) (dn0 : Bool) (fu0 : Int) (l0 fs0 : List Fl) (fuc : Int) (rc : Nat) (t : Nat) (hv : Int) (ht : t < 2 ^ 64) (fu : Int) (hlo : -9223372036854775808 ≤ fu) (hhi : fu ≤ 9223372036854775807) (kv : Value) (ks : List Int) (w : World)
    (h0 : Files w w.heap.size v0 l0) (hk : Ints w w.heap.size kv ks)
    (hc0 : ∀ x, Files x x.heap.size v0 l0 → Calls Try.prog 17 #[.agg #[v0, .bool dn0, .int .i64 fu0], .slice none 0 0] x (DoIs x fs0 false fuc rc))
    (hz0 : chkN fs0 = 0) (hsf : ∀ f ∈ fs0, f.da.size ≤ 140737488355328 ∧ f.sy = (f.da.size : Nat)) :
    Calls Try.prog 4 #[.agg #[v0, .bool dn0, .int .i64 fu0], .agg #[.int .u64 t, .int .i64 hv], .int .i64 fu, kv] w fun e w' => e = .returned (.bool true) ∧ Below w.heap.size w w' := by
  have hmlo : -9223372036854775808 ≤ maxF fu := by unfold maxF; split <;> omega
  have hmhi : maxF fu ≤ 9223372036854775807 := by unfold maxF; split <;> omega
  have HFI0 := Lib.hid (small_fine (S := 140737488355328) (by omega) hz0 (fun f hf => (hsf f hf).1))
  have HLE0 : Hid (fs0.length ≤ 4611686018427387904) := by have := (chk_fine _ hz0).1; show fs0.length ≤ _; omega
  have hld0 := fun v x hv => load_any v false fuc fs0 x hv
  unfold LoadIs at hld0
  have HLD0 := Lib.hid hld0
  have HCH := Lib.hid (fun x => Hd.check_any (t : Nat) hv x)
  have HC0 := Lib.hid hc0
  have gf := guard_hard
  have HEQ := Lib.hid (fun t1 v1 t2 v2 w => eql_hard t1 v1 t2 v2 w)
  have HK := Lib.hid hk
  -- what a save comes to, for a vote that is right
  have HSV : Hid (Hd.chkH hv = 0 → ldE fs0 false = 0 → ∃ (v : Nat) (f4 : List Fl) (dn4 : Bool) (fu4 : Int) (r4 : Nat) (f5 : List Fl) (gt gv : Nat), hv = v ∧ (r4 = 0 ∨ r4 = 8 ∨ r4 = 11) ∧
      (∀ dv x, Files x x.heap.size dv fs0 → Calls Try.prog 11 #[.agg #[dv, .bool false, .int .i64 (maxF fu)], .agg #[.int .u64 (t : Nat), .int .i64 (v : Nat)]] x (DoW x (.slice none 0 0) f4 dn4 fu4 r4)) ∧
      (∀ x dv, Files x x.heap.size dv f4 → Ints x x.heap.size kv ks → Calls Try.prog 17 #[.agg #[dv, .bool dn4, .int .i64 fu4], kv] x (DoIs x f5 false (-1) 0)) ∧ Fine f5 ∧ f5.length ≤ 4611686018427387904 ∧
      (r4 = 0 → gt = t ∧ gv = v) ∧ (¬ r4 = 0 → gt = ldT fs0 false ∧ gv = ldV fs0 false) ∧
      (∀ dv x, Files x x.heap.size dv f5 → Calls Try.prog 9 #[.agg #[dv, .bool false, .int .i64 (-1)]] x fun e w' => e = .returned (.tuple #[.agg #[.int .u64 gt, .int .i64 gv], .int .i64 0]) ∧ Below x.heap.size x w')) := by
    intro hch he0
    have h7 : 0 ≤ hv ∧ hv ≤ 7 := by unfold Hd.chkH at hch; split at hch <;> (try split at hch) <;> omega
    obtain ⟨v, rfl⟩ := Int.eq_ofNat_of_zero_le h7.1
    have hv7 : v ≤ 7 := by omega
    obtain ⟨o, ho⟩ : ∃ o, o = seqO nH nT (encB t v) fs0 false (maxF fu) 4 := ⟨_, rfl⟩
    have hsb := fun dv x hf => save_any 140737488355328 (by omega) (by omega) dv fs0 (maxF fu) hz0 (fun f hf => (hsf f hf).1) hmlo hmhi t v ht hv7 x hf
    have hsm := (sq_all 140737488355328 (by omega) fs0 (encB t v) (encB_size t v ht hv7) (maxF fu) hz0 (fun f hf => (hsf f hf).1) hmlo hmhi).2.2.2.small
    obtain ⟨q1, q2, q3, q4, q5⟩ := save_crash 140737488355328 (by omega) fs0 (maxF fu) ks hz0 hsf hmlo hmhi t v ht hv7 o ho
    rw [← ho] at hsb hsm
    rw [he0] at q5
    have hcs := crash_small (ks := ks) q1 hsm
    refine ⟨v, o.fs, o.dn, o.fu, o.r, crS o.fs ks o.fs.length, ldT (crS o.fs ks o.fs.length) false, ldV (crS o.fs ks o.fs.length) false, rfl, ?_, hsb, fun x dv hf hi => crash_own dv kv o.dn o.fu o.fs ks x hf hi q1, small_fine (S := 140737488355328) (by omega) q2 (fun f hf => (hcs f hf).1), ?_, fun h => ⟨(q4 h).1, (q4 h).2.1⟩, fun h => ⟨(q5 h).1, (q5 h).2.1⟩, fun dv x hf => ?_⟩
    · rcases q3 with h | h | ⟨h, -⟩
      · exact .inl h
      · exact .inr (.inl h)
      · exact .inr (.inr h)
    · have := (chk_fine _ q2).1; omega
    · have h0 : ldE (crS o.fs ks o.fs.length) false = 0 := by
        by_cases h : o.r = 0
        · exact (q4 h).2.2
        · exact (q5 h).2.2
      have := load_any dv false (-1) (crS o.fs ks o.fs.length) x hf
      unfold LoadIs at this
      rw [h0] at this
      exact this
  have H0 := Lib.hid h0
  obtain ⟨a0, c0, rfl⟩ := files_slice h0
  generalize hln : l0.length = n0 at *
  generalize ldT fs0 false = t0 at *
  generalize ldV fs0 false = u0 at *
  generalize ldE fs0 false = e0 at *
  generalize Hd.chkH hv = ce at *
  clear hmlo hmhi hld0 hc0 hk h0 hz0 hsf hln
  go_enter Try.func4, Try.ntmps4
  go_wp2_with fail
  refine (hlives _).mono ?_
  rintro e w1 ⟨rfl, hb⟩
  obtain ⟨b0, b1, hbw, hz1⟩ := two_boxes hb
  have B1 := Lib.hid b1
  have f0 : ∀ i, w1.frozen? ⟨w.heap.size, i, none⟩ = false := fun i => by rw [hb.frozen (p := ⟨w.heap.size, i, none⟩) (by simp <;> omega)]; simp [go_sem]
  have HS1 : Hid (St w w.heap.size w1 (.slice a0 n0 c0) dn0 fu0 l0) := ⟨Nat.le_refl _, by omega, hbw, ⟨b0 0, b0 1, b0 2, f0 0, f0 1, f0 2⟩, H0.out.on hbw (by omega)⟩
  clear hb hbw b1 f0
  go_wp2_with fail
  refine (HC0.out _ HS1.out.files).mono ?_
  intro e w2 hd
  obtain ⟨v3, rfl, ho, hb⟩ := hd
  have HI3 := Lib.hid (ho.hi)
  have hf3 := ho.files HFI0.out HLE0.out
  obtain ⟨a3, c3, rfl⟩ := files_slice hf3
  have HS2a := Lib.hid (HS1.out.keep hb)
  have HS2 : Hid (St w w.heap.size (((w2.setCell ⟨w.heap.size, 0, none⟩ (.slice a3 fs0.length c3)).setCell ⟨w.heap.size, 1, none⟩ (.bool false)).setCell ⟨w.heap.size, 2, none⟩ (.int .i64 fuc)) (.slice a3 fs0.length c3) false fuc fs0) :=
    ⟨Nat.le_refl _, by have := HS2a.out.hi; simpa using this, bset (bset (bset HS2a.out.below (Nat.le_refl _) _) (Nat.le_refl _) _) (Nat.le_refl _) _, HS2a.out.dx.st, hf3.put3 (HI3.out.le (B := w.heap.size + 1) (by omega)) (by omega)⟩
  have B2 : Hid (∀ i, (((w2.setCell ⟨w.heap.size, 0, none⟩ (.slice a3 fs0.length c3)).setCell ⟨w.heap.size, 1, none⟩ (.bool false)).setCell ⟨w.heap.size, 2, none⟩ (.int .i64 fuc)).cell? ⟨w.heap.size + 1, i, none⟩ = #[.int .u64 t, .int .i64 hv][i]?) := by
    intro i
    rw [World.cell?_setCell_other _ _ _ _ (by intro e; injection e with e1; omega), World.cell?_setCell_other _ _ _ _ (by intro e; injection e with e1; omega), World.cell?_setCell_other _ _ _ _ (by intro e; injection e with e1; omega)]
    exact (hb.cell (by show w.heap.size + 1 < _; omega)).trans (B1.out i)
  have HZ2 := Lib.hid hb.size
  obtain ⟨x0, x1, x2, x3, x4, x5⟩ := HS2a.out.dx
  clear hb ho hf3 b0
  generalize fs0.length = n3 at *
  go_wp2_with fail
  refine (HLD0.out _ _ HS2.out.files).mono ?_
  rintro e w3 ⟨rfl, hb⟩
  have hz2 : w.heap.size + 2 ≤ w3.heap.size := by have h7 := HZ2.out; have h8 := hb.size; simp at h8; omega
  have HS3 := Lib.hid ((HS2.out.keep hb).keep ((Below.refl _ _).alloc (Nat.le_refl _) (.cells #[.int .u64 t0, .int .i64 u0] 27)))
  have B3 : Hid (∀ i, (w3.alloc (.cells #[.int .u64 t0, .int .i64 u0] 27)).cell? ⟨w.heap.size + 1, i, none⟩ = #[.int .u64 t, .int .i64 hv][i]?) := by
    intro i
    rw [World.cell?_alloc_lt _ _ _ (by show w.heap.size + 1 < _; omega)]
    exact (hb.cell (by show w.heap.size + 1 < _; have h7 := HZ2.out; simp; omega)).trans (B2.out i)
  have W3 : Hid (∀ i, (w3.alloc (.cells #[.int .u64 t0, .int .i64 u0] 27)).cell? ⟨w3.heap.size, i, none⟩ = #[.int .u64 t0, .int .i64 u0][i]?) := by
    intro i; simp [go_sem]
  clear hb x0 x1 x2 x3 x4 x5
  by_cases he : e0 = 0
  · subst he
    have b3 := B3.out
    go_wp2_with fail
    refine (HCH.out _).mono ?_
    rintro e w4 ⟨rfl, hb⟩
    have hz4 : w3.heap.size + 1 ≤ w4.heap.size := by have := hb.size; simpa using this
    have HS4 := Lib.hid (HS3.out.keep hb)
    have B4 : Hid (∀ i, w4.cell? ⟨w.heap.size + 1, i, none⟩ = #[.int .u64 t, .int .i64 hv][i]?) := fun i => (hb.cell (by show w.heap.size + 1 < _; simp; omega)).trans (B3.out i)
    have W4 : Hid (∀ i, w4.cell? ⟨w3.heap.size, i, none⟩ = #[.int .u64 t0, .int .i64 u0][i]?) := fun i => (hb.cell (by simp)).trans (W3.out i)
    clear hb b3
    by_cases hce : ce = 0
    · subst hce
      obtain ⟨v, f4, dn4, fu4, r4, f5, gt, gv, rfl, hr4, hsv, hcr, hfi, hle, g0, g1, hgl⟩ := HSV.out (by first | rfl | trivial) (by first | rfl | trivial)
      have HSV2 := Lib.hid hsv
      have HCR := Lib.hid hcr
      have HFI := Lib.hid hfi
      have HLE := Lib.hid hle
      have HGL := Lib.hid hgl
      have G0 := Lib.hid g0
      have G1 := Lib.hid g1
      obtain ⟨d0, d1, d2, d3, d4, d5⟩ := HS4.out.dx
      have HS5 : Hid (St w w.heap.size (w4.setCell ⟨w.heap.size, 2, none⟩ (.int .i64 (maxF fu))) (.slice a3 n3 c3) false (maxF fu) fs0) := HS4.out.fuse (fun b off c e => by have := HI3.out b off _ c e; omega) _
      have B5 : Hid (∀ i, (w4.setCell ⟨w.heap.size, 2, none⟩ (.int .i64 (maxF fu))).cell? ⟨w.heap.size + 1, i, none⟩ = #[.int .u64 t, .int .i64 (v : Nat)][i]?) := fun i => (World.cell?_setCell_other _ _ _ _ (by intro e; injection e with e1; omega)).trans (B4.out i)
      have W5 : Hid (∀ i, (w4.setCell ⟨w.heap.size, 2, none⟩ (.int .i64 (maxF fu))).cell? ⟨w3.heap.size, i, none⟩ = #[.int .u64 t0, .int .i64 u0][i]?) := fun i => (World.cell?_setCell_other _ _ _ _ (by intro e; injection e with e1; omega)).trans (W4.out i)
      have hmx : max fu (-1) = maxF fu := by unfold maxF; split <;> omega
      have b5 := B5.out
      clear hsv hcr hfi hle hgl g0 g1 HSV HC0 HLD0 HCH
      go_wp2_with fail
      refine (HSV2.out _ _ HS5.out.files).mono ?_
      rintro e w6 ⟨v6, rfl, hf6, -, hb⟩
      obtain ⟨a6, c6, rfl⟩ := files_slice hf6
      have hz6 : w4.heap.size ≤ w6.heap.size := by have := hb.size; simpa using this
      have HW6 := Lib.hid (HS5.out.below.trans (hb.mono (by simp; omega)))
      have HS6 := Lib.hid (St.new (w := w6) (dn := dn4) (fu := fu4) (Below.refl _ _) hf6)
      have B6 : Hid (∀ i, w6.cell? ⟨w.heap.size + 1, i, none⟩ = #[.int .u64 t, .int .i64 (v : Nat)][i]?) := fun i => (hb.cell (by show w.heap.size + 1 < _; simp; omega)).trans (B5.out i)
      have W6 : Hid (∀ i, w6.cell? ⟨w3.heap.size, i, none⟩ = #[.int .u64 t0, .int .i64 u0][i]?) := fun i => (hb.cell (by show w3.heap.size < _; simp; omega)).trans (W5.out i)
      clear hb hf6 b5 d0 d1 d2 d3 d4 d5 hmx
      generalize f4.length = n6 at *
      by_cases hr11 : r4 = 11
      · subst hr11
        go_wp2
        go_ret
        exact ⟨rfl, HW6.out.alloc (by omega) _⟩
      · have hr8 : r4 = 0 ∨ r4 = 8 := by omega
        clear hr4 hr11
        rcases hr8 with rfl | rfl
        · obtain ⟨e5, e6⟩ := G0.out (by first | rfl | trivial)
          subst e5 e6
          have HK6 := Lib.hid (HK.out.on (HW6.out.alloc (by omega) (.cells #[.slice a6 n6 c6, .bool dn4, .int .i64 fu4] 24)))
          go_wp2_with fail
          refine (HCR.out _ _ HS6.out.files HK6.out).mono ?_
          intro e w7 hd
          obtain ⟨v7, rfl, ⟨a7, c7, rfl⟩, hs, hS, _⟩ := HS6.out.step hd HFI.out HLE.out
          have HS7 := Lib.hid hS
          unfold st3 at HS7
          obtain ⟨d0, d1, d2, d3, d4, d5⟩ := hs.dx
          clear hd hs hS
          generalize f5.length = n7 at *
          go_wp2_with fail
          refine (HGL.out _ _ HS7.out.files).mono ?_
          rintro e w8 ⟨rfl, hb⟩
          have HB8 := Lib.hid (HS7.out.below.trans (hb.mono HS7.out.below.size))
          have HAL := Lib.hid (HB8.out.alloc HB8.out.size (.cells #[.int .u64 gt, .int .i64 gv] 27))
          have m1 : ∀ i, (w8.alloc (.cells #[.int .u64 gt, .int .i64 gv] 27)).cell? ⟨w.heap.size + 1, i, none⟩ = #[.int .u64 gt, .int .i64 gv][i]? := fun i => (HAL.out.cell (by show w.heap.size + 1 < _; omega)).trans (B6.out i)
          have m2 : ∀ i, (w8.alloc (.cells #[.int .u64 gt, .int .i64 gv] 27)).cell? ⟨w3.heap.size, i, none⟩ = #[.int .u64 t0, .int .i64 u0][i]? := fun i => (HAL.out.cell (by show w3.heap.size < _; omega)).trans (W6.out i)
          have HW9 : Hid (Below w.heap.size w (w8.alloc (.cells #[.int .u64 gt, .int .i64 gv] 27))) := HW6.out.trans (HAL.out.mono (by omega))
          have heq := HEQ.out gt gv gt gv
          rw [eqHd_self] at heq
          clear hb d0 d1 d2 d3 d4 d5
          go_wp2
          go_ret
          exact ⟨rfl, HW9.out⟩
        · obtain ⟨e5, e6⟩ := G1.out (by first | decide | trivial | omega)
          subst e5 e6
          have HK6 := Lib.hid (HK.out.on (HW6.out.alloc (by omega) (.cells #[.slice a6 n6 c6, .bool dn4, .int .i64 fu4] 24)))
          go_wp2_with fail
          refine (HCR.out _ _ HS6.out.files HK6.out).mono ?_
          intro e w7 hd
          obtain ⟨v7, rfl, ⟨a7, c7, rfl⟩, hs, hS, _⟩ := HS6.out.step hd HFI.out HLE.out
          have HS7 := Lib.hid hS
          unfold st3 at HS7
          obtain ⟨d0, d1, d2, d3, d4, d5⟩ := hs.dx
          clear hd hs hS
          generalize f5.length = n7 at *
          go_wp2_with fail
          refine (HGL.out _ _ HS7.out.files).mono ?_
          rintro e w8 ⟨rfl, hb⟩
          have HB8 := Lib.hid (HS7.out.below.trans (hb.mono HS7.out.below.size))
          have HAL := Lib.hid (HB8.out.alloc HB8.out.size (.cells #[.int .u64 gt, .int .i64 gv] 27))
          have m1 : ∀ i, (w8.alloc (.cells #[.int .u64 gt, .int .i64 gv] 27)).cell? ⟨w.heap.size + 1, i, none⟩ = #[.int .u64 t, .int .i64 v][i]? := fun i => (HAL.out.cell (by show w.heap.size + 1 < _; omega)).trans (B6.out i)
          have m2 : ∀ i, (w8.alloc (.cells #[.int .u64 gt, .int .i64 gv] 27)).cell? ⟨w3.heap.size, i, none⟩ = #[.int .u64 gt, .int .i64 gv][i]? := fun i => (HAL.out.cell (by show w3.heap.size < _; omega)).trans (W6.out i)
          have HW9 : Hid (Below w.heap.size w (w8.alloc (.cells #[.int .u64 gt, .int .i64 gv] 27))) := HW6.out.trans (HAL.out.mono (by omega))
          have heq := HEQ.out gt gv gt gv
          rw [eqHd_self] at heq
          clear hb d0 d1 d2 d3 d4 d5
          have heq2 := HEQ.out gt gv t v
          generalize eqHd (gt : Int) (gv : Int) (t : Int) (v : Int) = q at heq2
          cases q
          · go_wp2
            go_ret
            exact ⟨rfl, HW9.out⟩
          · go_wp2
            go_ret
            exact ⟨rfl, HW9.out⟩
    · have hn : ¬ (ce : Int) = 0 := by omega
      have hn' : ((ce : Int) != 0) = true := by simp; omega
      go_wp2
      go_ret
      exact ⟨rfl, HS4.out.below⟩
  · have hn : ¬ (e0 : Int) = 0 := by omega
    have hn' : ((e0 : Int) != 0) = true := by simp; omega
    go_wp2
    go_ret
    exact ⟨rfl, HS3.out.below⟩
theorem hardOne (v0 : Value) (dn0 : Bool) (fu0 : Int) (l0 : List Fl) (t hv : Int) (hh : (Lit.int .u64 t).wf = true ∧ (Lit.int .i64 hv).wf = true) (fu : Int) (hfu : (Lit.int .i64 fu).wf = true) (kv : Value) (ks : List Int) (w : World)
    (h0 : Files w w.heap.size v0 l0) (hs : ∀ f ∈ l0, f.da.size ≤ 140737488355328) (hk : Ints w w.heap.size kv ks) :
    Calls Try.prog 4 #[.agg #[v0, .bool dn0, .int .i64 fu0], .agg #[.int .u64 t, .int .i64 hv], .int .i64 fu, kv] w fun e w' => e = .returned (.bool true) ∧ Below w.heap.size w w' := by
  have h1 : 0 ≤ t ∧ t ≤ 18446744073709551615 := by simpa [Lit.wf, IntKind.min, IntKind.max, IntKind.signed, IntKind.bits] using hh.1
  have h3 : -9223372036854775808 ≤ fu ∧ fu ≤ 9223372036854775807 := by simpa [Lit.wf, IntKind.min, IntKind.max, IntKind.signed, IntKind.bits] using hfu
  obtain ⟨t, rfl⟩ := Int.eq_ofNat_of_zero_le h1.1
  by_cases hc : chkN l0 = 0
  · exact hardOne_go v0 dn0 fu0 l0 (crS l0 [] l0.length) (-1) 0 t hv (by omega) fu h3.1 h3.2 kv ks w h0 hk (fun x hx => crash_own v0 (.slice none 0 0) dn0 fu0 l0 [] x hx ⟨none, 0, rfl, by simp, by simp, by simp⟩ hc) (crash_chk hc) (crash_small hc hs)
  · exact hardOne_go v0 dn0 fu0 l0 [] 0 10 t hv (by omega) fu h3.1 h3.2 kv ks w h0 hk (fun x hx => crash_bad v0 (.slice none 0 0) dn0 fu0 l0 x hx hc) chk_nil (fun f hf => by cases hf)
end Dk
end Go.Proofs.Ytpncflgcfndhmaa
