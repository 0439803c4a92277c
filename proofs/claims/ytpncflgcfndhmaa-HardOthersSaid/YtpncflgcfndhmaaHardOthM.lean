/-
  Merged: HardMath, HardTwo, HardAny, HardHs, HardOth.
-/
import Derived.Test.YtpncflgcfndhmaaHardC
import Derived.Test.YtpncflgcfndhmaaDiskTail
import Derived.Laws.StructEq
import Derived.Test.YtpncflgcfndhmaaHardA
import Derived.Test.YtpncflgcfndhmaaDiskArg
/- SAVING at any right disk, with any fuse: what stands there then, and behind a crash. -/
namespace Go.Proofs.Ytpncflgcfndhmaa
open Go.RowKit Go.Lib Go.Sort
namespace Dk
/-- What stands behind the first k changes of a save of da at the right disk fs. -/
structure Sq (S : Nat) (fs : List Fl) (da : ByteArray) (k : Nat) (o : Out) : Prop where
  chk : chkN o.fs = 0
  small : ∀ f ∈ o.fs, f.da.size ≤ S
  lo : -9223372036854775808 ≤ o.fu
  hi : o.fu ≤ 9223372036854775807
  up : o.r = 0 → o.dn = false
  other : ∀ nm, nm ≠ nT → nm ≠ nH → look o.fs nm = look fs nm
  keep : k < 4 ∨ o.r ≠ 0 → look o.fs nH = look fs nH
  s1 : k = 1 → o.r = 0 → look o.fs nT = none ∧ o.fs.length ≤ fs.length
  s2 : k = 2 → o.r = 0 → look o.fs nT = some ⟨nT, da, 0⟩
  s3 : k = 3 → o.r = 0 → look o.fs nT = some ⟨nT, da, (da.size : Nat)⟩
  s4 : k = 4 → o.r = 0 → look o.fs nH = some ⟨nH, da, (da.size : Nat)⟩
  why : o.r = 0 ∨ o.r = 8 ∨ (o.r = 11 ∧ 4096 ≤ fs.length)
theorem nHT : nH ≠ nT := fun e => by have := eHT; rw [e] at this; simp at this
theorem fu_lo {fu : Int} (h : -9223372036854775808 ≤ fu) : -9223372036854775808 ≤ (if 0 < fu then fu - 1 else fu) := by split <;> omega
theorem fu_hi {fu : Int} (h : fu ≤ 9223372036854775807) : (if 0 < fu then fu - 1 else fu) ≤ 9223372036854775807 := by split <;> omega
theorem outO_up {fs ch : List Fl} {fu : Int} {r : Nat} {ad : Bool} (h : chkN fs = 0) : outO fs false fu r ch ad = if r = 0 then (if fu = 0 then ⟨if ad then ch else fs, true, 0, 8⟩ else ⟨ch, false, if 0 < fu then fu - 1 else fu, 0⟩) else ⟨fs, false, fu, r⟩ := by
  unfold outO; rw [if_pos h, if_neg (by simp)]
theorem look_lt {fs : List Fl} {nm : ByteArray} {f : Fl} (h : look fs nm = some f) : idxN fs nm < fs.length := (List.getElem?_eq_some_iff.1 h).1
theorem look_ge {fs : List Fl} {nm : ByteArray} (h : look fs nm = none) : ¬ idxN fs nm < fs.length := fun h1 => by unfold look at h; rw [List.getElem?_eq_getElem h1] at h; cases h
theorem Sq.stop {S : Nat} {fs : List Fl} {da : ByteArray} {k : Nat} {o : Out} (h : Sq S fs da k o) (hr : o.r ≠ 0) (j : Nat) : Sq S fs da j o where
  chk := h.chk
  small := h.small
  lo := h.lo
  hi := h.hi
  up := h.up
  other := h.other
  keep := fun _ => h.keep (.inr hr)
  s1 := fun _ e => absurd e hr
  s2 := fun _ e => absurd e hr
  s3 := fun _ e => absurd e hr
  s4 := fun _ e => absurd e hr
  why := h.why
theorem sq1 (S : Nat) (fs : List Fl) (da : ByteArray) (fu : Int) (h0 : chkN fs = 0) (hs : ∀ f ∈ fs, f.da.size ≤ S) (hlo : -9223372036854775808 ≤ fu) (hhi : fu ≤ 9223372036854775807) : Sq S fs da 1 (rw1 nT fs false fu) := by
  obtain ⟨h4, hok⟩ := chk_fine fs h0
  unfold rw1
  cases hl : look fs nT with
  | none =>
    rw [if_pos (rd_none h0 hl).2]
    exact ⟨h0, hs, hlo, hhi, fun _ => rfl, fun _ _ _ => rfl, fun _ => rfl, fun _ _ => ⟨hl, Nat.le_refl _⟩, fun e => by omega, fun e => by omega, fun e => by omega, .inl rfl⟩
  | some f =>
    have hn := look_lt hl
    rw [if_neg (by rw [(rd_some h0 hl).2]; omega)]
    unfold drpO
    have hr : rsN fs nT = 0 := if_pos hn
    rw [outO_up h0, hr, if_pos rfl]
    have hok2 := del_ok hok (idxN fs nT)
    have hel : (fs.eraseIdx (idxN fs nT)).length = fs.length - 1 := List.length_eraseIdx_of_lt hn
    split
    · exact ⟨h0, hs, by show (-9223372036854775808 : Int) ≤ 0; omega, by show (0 : Int) ≤ 9223372036854775807; omega, (fun e => by cases e), fun _ _ _ => rfl, fun _ => rfl, (fun _ e => by cases e), fun e => by omega, fun e => by omega, fun e => by omega, .inr (.inl rfl)⟩
    · exact ⟨chk_of (by show (fs.eraseIdx _).length ≤ _; omega) hok2, fun x hx => hs x (List.mem_of_mem_eraseIdx hx), fu_lo hlo, fu_hi hhi, fun _ => rfl, fun nm hne _ => look_del hok nT nm hn hne, fun _ => look_del hok nT nH hn nHT, fun _ _ => ⟨look_del_self hok nT hn, by show (fs.eraseIdx _).length ≤ _; omega⟩, fun e => by omega, fun e => by omega, fun e => by omega, .inl rfl⟩
theorem sq2 (S : Nat) (hS : 24 ≤ S) (fs : List Fl) (da : ByteArray) (hda : da.size ≤ 24) (o : Out) (h : Sq S fs da 1 o) (hr : o.r = 0) : Sq S fs da 2 (addO o.fs o.dn o.fu nT da) := by
  obtain ⟨hl, hlen⟩ := h.s1 rfl hr
  obtain ⟨h4, hok⟩ := chk_fine _ h.chk
  have hn := look_ge hl
  have hF : addF o.fs nT da = ⟨nT, da, 0⟩ := by unfold addF; rw [hl]
  rw [h.up hr]
  unfold addO
  rw [outO_up h.chk, hF]
  have hh : hasN o.fs nT = false := by unfold hasN; simpa using hn
  have hra : raN o.fs.length nT (hasN o.fs nT) = if 4096 ≤ o.fs.length then 11 else 0 := by unfold raN; rw [okT', if_pos rfl, hh, if_neg (by simp)]
  rw [hra]
  have hpl : (putF o.fs ⟨nT, da, 0⟩).length = o.fs.length + 1 := by rw [put_len _ hok]; exact if_neg hn
  by_cases hful : 4096 ≤ o.fs.length
  · rw [if_pos hful, if_neg (by omega)]
    exact ⟨h.chk, h.small, h.lo, h.hi, (fun e => by cases e), h.other, fun _ => h.keep (.inl (by omega)), fun e => by omega, (fun _ e => by cases e), fun e => by omega, fun e => by omega, .inr (.inr ⟨rfl, by omega⟩)⟩
  · rw [if_neg hful, if_pos rfl]
    have hp : chkN (putF o.fs ⟨nT, da, 0⟩) = 0 := chk_of (by omega) (put_ok hok _ ⟨by show (0 : Int) ≤ 0; omega, by show (0 : Int) ≤ (da.size : Nat); omega⟩)
    have hps : ∀ f ∈ putF o.fs ⟨nT, da, 0⟩, f.da.size ≤ S := fun f hf => by
      rcases (put_mem hok _ f).1 hf with rfl | ⟨hf, -⟩
      · show da.size ≤ S; omega
      · exact h.small f hf
    have hoth : ∀ nm, nm ≠ nT → look (putF o.fs ⟨nT, da, 0⟩) nm = look o.fs nm := fun nm hne => look_put_ne hok ⟨nT, da, 0⟩ nm hne
    split
    · exact ⟨hp, hps, by show (-9223372036854775808 : Int) ≤ 0; omega, by show (0 : Int) ≤ 9223372036854775807; omega, (fun e => by cases e), fun nm h1 h2 => (hoth nm h1).trans (h.other nm h1 h2), fun _ => (hoth nH nHT).trans (h.keep (.inl (by omega))), fun e => by omega, (fun _ e => by cases e), fun e => by omega, fun e => by omega, .inr (.inl rfl)⟩
    · exact ⟨hp, hps, fu_lo h.lo, fu_hi h.hi, fun _ => rfl, fun nm h1 h2 => (hoth nm h1).trans (h.other nm h1 h2), fun _ => (hoth nH nHT).trans (h.keep (.inl (by omega))), fun e => by omega, fun _ _ => look_put hok ⟨nT, da, 0⟩, fun e => by omega, fun e => by omega, .inl rfl⟩
theorem sq3 (S : Nat) (hS : 24 ≤ S) (fs : List Fl) (da : ByteArray) (hda : da.size ≤ 24) (o : Out) (h : Sq S fs da 2 o) (hr : o.r = 0) : Sq S fs da 3 (synO o.fs o.dn o.fu nT) := by
  have hl := h.s2 rfl hr
  obtain ⟨h4, hok⟩ := chk_fine _ h.chk
  have hn := look_lt hl
  have hF : synF o.fs nT = ⟨nT, da, (da.size : Nat)⟩ := by unfold synF; rw [hl]
  rw [h.up hr]
  unfold synO
  have hrs : rsN o.fs nT = 0 := if_pos hn
  rw [outO_up h.chk, hF, hrs, if_pos rfl]
  have hpl : (putF o.fs ⟨nT, da, (da.size : Nat)⟩).length = o.fs.length := by rw [put_len _ hok]; exact if_pos hn
  have hp : chkN (putF o.fs ⟨nT, da, (da.size : Nat)⟩) = 0 := chk_of (by omega) (put_ok hok _ ⟨by show (0 : Int) ≤ (da.size : Nat); omega, Int.le_refl _⟩)
  have hps : ∀ f ∈ putF o.fs ⟨nT, da, (da.size : Nat)⟩, f.da.size ≤ S := fun f hf => by
    rcases (put_mem hok _ f).1 hf with rfl | ⟨hf, -⟩
    · show da.size ≤ S; omega
    · exact h.small f hf
  have hoth : ∀ nm, nm ≠ nT → look (putF o.fs ⟨nT, da, (da.size : Nat)⟩) nm = look o.fs nm := fun nm hne => look_put_ne hok ⟨nT, da, (da.size : Nat)⟩ nm hne
  split
  · exact ⟨h.chk, h.small, by show (-9223372036854775808 : Int) ≤ 0; omega, by show (0 : Int) ≤ 9223372036854775807; omega, (fun e => by cases e), h.other, fun _ => h.keep (.inl (by omega)), fun e => by omega, fun e => by omega, (fun _ e => by cases e), fun e => by omega, .inr (.inl rfl)⟩
  · exact ⟨hp, hps, fu_lo h.lo, fu_hi h.hi, fun _ => rfl, fun nm h1 h2 => (hoth nm h1).trans (h.other nm h1 h2), fun _ => (hoth nH nHT).trans (h.keep (.inl (by omega))), fun e => by omega, fun e => by omega, fun _ _ => look_put hok ⟨nT, da, (da.size : Nat)⟩, fun e => by omega, .inl rfl⟩
theorem sq4 (S : Nat) (hS : 24 ≤ S) (fs : List Fl) (da : ByteArray) (hda : da.size ≤ 24) (o : Out) (h : Sq S fs da 3 o) (hr : o.r = 0) : Sq S fs da 4 (swpO o.fs o.dn o.fu nT nH) := by
  have hl := h.s3 rfl hr
  obtain ⟨h4, hok⟩ := chk_fine _ h.chk
  have hn := look_lt hl
  have hF : swpF o.fs nT nH = ⟨nH, da, (da.size : Nat)⟩ := by unfold swpF; rw [hl]
  rw [h.up hr]
  unfold swpO
  have hrw : rwN o.fs nT nH = 0 := by
    unfold rwN
    rw [show o.fs[idxN o.fs nT]? = some ⟨nT, da, (da.size : Nat)⟩ from hl]
    show (if ((da.size : Nat) : Int) < (da.size : Nat) then 9 else if nmOk nH = true then 0 else 5) = 0
    rw [if_neg (by omega), if_pos okH]
  rw [outO_up h.chk, hF, hrw, if_pos rfl]
  have hok2 := del_ok hok (idxN o.fs nT)
  have hel : (o.fs.eraseIdx (idxN o.fs nT)).length = o.fs.length - 1 := List.length_eraseIdx_of_lt hn
  have hpl : (putF (o.fs.eraseIdx (idxN o.fs nT)) ⟨nH, da, (da.size : Nat)⟩).length ≤ o.fs.length := by rw [put_len _ hok2]; split <;> omega
  have hp : chkN (putF (o.fs.eraseIdx (idxN o.fs nT)) ⟨nH, da, (da.size : Nat)⟩) = 0 := chk_of (by omega) (put_ok hok2 _ ⟨by show (0 : Int) ≤ (da.size : Nat); omega, Int.le_refl _⟩)
  have hps : ∀ f ∈ putF (o.fs.eraseIdx (idxN o.fs nT)) ⟨nH, da, (da.size : Nat)⟩, f.da.size ≤ S := fun f hf => by
    rcases (put_mem hok2 _ f).1 hf with rfl | ⟨hf, -⟩
    · show da.size ≤ S; omega
    · exact h.small f (List.mem_of_mem_eraseIdx hf)
  have hoth : ∀ nm, nm ≠ nT → nm ≠ nH → look (putF (o.fs.eraseIdx (idxN o.fs nT)) ⟨nH, da, (da.size : Nat)⟩) nm = look o.fs nm := fun nm h1 h2 => (look_put_ne hok2 ⟨nH, da, (da.size : Nat)⟩ nm h2).trans (look_del hok nT nm hn h1)
  split
  · exact ⟨h.chk, h.small, by show (-9223372036854775808 : Int) ≤ 0; omega, by show (0 : Int) ≤ 9223372036854775807; omega, (fun e => by cases e), h.other, fun _ => h.keep (.inl (by omega)), fun e => by omega, fun e => by omega, fun e => by omega, (fun _ e => by cases e), .inr (.inl rfl)⟩
  · exact ⟨hp, hps, fu_lo h.lo, fu_hi h.hi, fun _ => rfl, fun nm h1 h2 => (hoth nm h1 h2).trans (h.other nm h1 h2), (fun e => by rcases e with e | e; omega; exact absurd rfl e), fun e => by omega, fun e => by omega, fun e => by omega, fun _ _ => look_put hok2 ⟨nH, da, (da.size : Nat)⟩, .inl rfl⟩
theorem sq_all (S : Nat) (hS : 24 ≤ S) (fs : List Fl) (da : ByteArray) (hda : da.size ≤ 24) (fu : Int) (h0 : chkN fs = 0) (hs : ∀ f ∈ fs, f.da.size ≤ S) (hlo : -9223372036854775808 ≤ fu) (hhi : fu ≤ 9223372036854775807) :
    Sq S fs da 1 (seqO nH nT da fs false fu 1) ∧ Sq S fs da 2 (seqO nH nT da fs false fu 2) ∧ Sq S fs da 3 (seqO nH nT da fs false fu 3) ∧ Sq S fs da 4 (seqO nH nT da fs false fu 4) := by
  have h1 : Sq S fs da 1 (seqO nH nT da fs false fu 1) := by
    rw [seq_succ]
    show Sq S fs da 1 (thenO ⟨fs, false, fu, 0⟩ (stp nH nT da 0))
    rw [thenO_ok rfl]
    exact sq1 S fs da fu h0 hs hlo hhi
  have h2 : Sq S fs da 2 (seqO nH nT da fs false fu 2) := by
    rw [seq_succ]
    by_cases hr : (seqO nH nT da fs false fu 1).r = 0
    · rw [thenO_ok hr]; exact sq2 S hS fs da hda _ h1 hr
    · rw [thenO_bad hr]; exact h1.stop hr 2
  have h3 : Sq S fs da 3 (seqO nH nT da fs false fu 3) := by
    rw [seq_succ]
    by_cases hr : (seqO nH nT da fs false fu 2).r = 0
    · rw [thenO_ok hr]; exact sq3 S hS fs da hda _ h2 hr
    · rw [thenO_bad hr]; exact h2.stop hr 3
  refine ⟨h1, h2, h3, ?_⟩
  rw [seq_succ]
  by_cases hr : (seqO nH nT da fs false fu 3).r = 0
  · rw [thenO_ok hr]; exact sq4 S hS fs da hda _ h3 hr
  · rw [thenO_bad hr]; exact h3.stop hr 4
theorem chk_bd {fs : List Fl} (h : chkN fs = 0) : Bd fs := ok_bd (chk_fine fs h).2
theorem small_fine {S : Nat} (hS : S ≤ 4611686018427387904) {fs : List Fl} (h : chkN fs = 0) (hs : ∀ f ∈ fs, f.da.size ≤ S) : Fine fs := fun f hf => by
  have h1 := hs f hf
  have h2 := chk_bd h f hf
  exact ⟨by unfold maxLen; omega, by omega, by omega⟩
theorem Sq.inv {S : Nat} (hS : S ≤ 4611686018427387904) {fs : List Fl} {da : ByteArray} (hda : da.size ≤ 24) {k : Nat} {o : Out} (h : Sq S fs da k o) : Inv da.size o where
  lo := h.lo
  hi := h.hi
  fine := small_fine hS h.chk h.small
  len := by have := (chk_fine _ h.chk).1; omega
  room := fun f hf => by have := h.small f hf; omega
/-- Save at a right disk. -/
theorem save_any (S : Nat) (hS : 24 ≤ S) (hS2 : S ≤ 4611686018427387904) (dv : Value) (fs : List Fl) (fu : Int) (h0 : chkN fs = 0) (hs : ∀ f ∈ fs, f.da.size ≤ S) (hlo : -9223372036854775808 ≤ fu) (hhi : fu ≤ 9223372036854775807) (t v : Nat) (ht : t < 2 ^ 64) (hv : v ≤ 7) (w : World) (hf : Files w w.heap.size dv fs) :
    Calls Try.prog 11 #[.agg #[dv, .bool false, .int .i64 fu], .agg #[.int .u64 (t : Nat), .int .i64 (v : Nat)]] w (DoW w (.slice none 0 0) (seqO nH nT (encB t v) fs false fu 4).fs (seqO nH nT (encB t v) fs false fu 4).dn (seqO nH nT (encB t v) fs false fu 4).fu (seqO nH nT (encB t v) fs false fu 4).r) := by
  have hda := encB_size t v ht hv
  obtain ⟨h1, h2, h3, h4⟩ := sq_all S hS fs (encB t v) hda fu h0 hs hlo hhi
  have hi0 : Inv (encB t v).size ⟨fs, false, fu, 0⟩ := ⟨hlo, hhi, small_fine hS2 h0 hs, by have := (chk_fine _ h0).1; show fs.length ≤ _; omega, fun f hf => by have := hs f hf; omega⟩
  have hi : ∀ k, k ≤ 4 → Inv (encB t v).size (seqO nH nT (encB t v) fs false fu k) := by
    intro k hk
    have h5 : k = 0 ∨ k = 1 ∨ k = 2 ∨ k = 3 ∨ k = 4 := by omega
    rcases h5 with rfl | rfl | rfl | rfl | rfl
    · exact hi0
    · exact h1.inv hS2 hda
    · exact h2.inv hS2 hda
    · exact h3.inv hS2 hda
    · exact h4.inv hS2 hda
  have hA := all4 nH nT (encB t v) fs false fu (by omega) hi
  refine save_ok dv false fu fs t v (seqO nH nT (encB t v) fs false fu 4) ht hv (fun x g pF pT pC hx hr => ?_) w hf
  exact do_rewrite nH nT (encB t v) (seqO nH nT (encB t v) fs false fu) hA rfl (fun k hk hr => by
    obtain ⟨j, e⟩ : ∃ j, 4 = k + j := ⟨4 - k, by omega⟩
    rw [show seqO nH nT (encB t v) fs false fu 4 = seqO nH nT (encB t v) fs false fu (k + j) by rw [← e]]
    exact seq_stop nH nT (encB t v) fs false fu k hr j) (by show fs.length ≤ 4096; exact (chk_fine _ h0).1) hi0.fine dv g pF pT pC x hx hr
theorem crash_none {fs : List Fl} {ks : List Int} {nm : ByteArray} (h0 : chkN fs = 0) (hl : look fs nm = none) : chkN (crS fs ks fs.length) = 0 ∧ look (crS fs ks fs.length) nm = none := by
  have h9 : chkN (crS fs ks fs.length) = 0 := chk_same fs _ h0 (crS_len _ _ _) (fun i i1 i2 => by obtain ⟨D, e, -⟩ := crS_each fs ks h0 i i2 i1; rw [e]) (fun i i1 => by obtain ⟨D, e, -⟩ := crS_each fs ks h0 i (by rw [crS_len] at i1; exact i1) i1; rw [e]; simp)
  refine ⟨h9, look_none.2 fun f hf => ?_⟩
  obtain ⟨i, hi, rfl⟩ := List.getElem_of_mem hf
  have hi2 : i < fs.length := by rw [crS_len] at hi; exact hi
  obtain ⟨D, e, -⟩ := crS_each fs ks h0 i hi2 hi
  rw [e]
  exact look_none.1 hl fs[i] (List.getElem_mem hi2)
theorem crash_small {S : Nat} {fs : List Fl} {ks : List Int} (h0 : chkN fs = 0) (hs : ∀ f ∈ fs, f.da.size ≤ S) : ∀ f ∈ crS fs ks fs.length, f.da.size ≤ S ∧ f.sy = (f.da.size : Nat) := by
  intro f hf
  obtain ⟨i, hi, rfl⟩ := List.getElem_of_mem hf
  have hi2 : i < fs.length := by rw [crS_len] at hi; exact hi
  obtain ⟨D, e, h1, h2, h3⟩ := crS_each fs ks h0 i hi2 hi
  rw [e]
  have := hs _ (List.getElem_mem hi2)
  exact ⟨by show D.size ≤ S; omega, rfl⟩
theorem crash_chk {fs : List Fl} {ks : List Int} (h0 : chkN fs = 0) : chkN (crS fs ks fs.length) = 0 := by
  cases hl : look fs nT with
  | none => exact (crash_none h0 hl).1
  | some f => exact chk_same fs _ h0 (crS_len _ _ _) (fun i i1 i2 => by obtain ⟨D, e, -⟩ := crS_each fs ks h0 i i2 i1; rw [e]) (fun i i1 => by obtain ⟨D, e, -⟩ := crS_each fs ks h0 i (by rw [crS_len] at i1; exact i1) i1; rw [e]; simp)
theorem ld_look {fs gs : List Fl} (h0 : chkN fs = 0) (h1 : chkN gs = 0) (hl : look gs nH = look fs nH) : ldT gs false = ldT fs false ∧ ldV gs false = ldV fs false ∧ ldE gs false = ldE fs false := by
  have hh : nHd = nH := rfl
  have key : rdS gs false nHd = rdS fs false nHd ∧ rdE gs false nHd = rdE fs false nHd := by
    rw [hh]
    cases hf : look fs nH with
    | none =>
      rw [hf] at hl
      obtain ⟨a1, a2⟩ := rd_none h0 hf
      obtain ⟨b1, b2⟩ := rd_none h1 hl
      exact ⟨b1.trans a1.symm, b2.trans a2.symm⟩
    | some f =>
      rw [hf] at hl
      obtain ⟨a1, a2⟩ := rd_some h0 hf
      obtain ⟨b1, b2⟩ := rd_some h1 hl
      exact ⟨b1.trans a1.symm, b2.trans a2.symm⟩
  unfold ldT ldV ldE
  rw [key.1, key.2]
  exact ⟨rfl, rfl, rfl⟩
/-- What is loaded behind a save, whatever the power took, and a crash. -/
theorem save_crash (S : Nat) (hS : 24 ≤ S) (fs : List Fl) (fu : Int) (ks : List Int) (h0 : chkN fs = 0) (hs : ∀ f ∈ fs, f.da.size ≤ S ∧ f.sy = (f.da.size : Nat)) (hlo : -9223372036854775808 ≤ fu) (hhi : fu ≤ 9223372036854775807) (t v : Nat) (ht : t < 2 ^ 64) (hv : v ≤ 7) (o : Out) (ho : o = seqO nH nT (encB t v) fs false fu 4) :
    chkN o.fs = 0 ∧ chkN (crS o.fs ks o.fs.length) = 0 ∧ (o.r = 0 ∨ o.r = 8 ∨ (o.r = 11 ∧ 4096 ≤ fs.length)) ∧
    (o.r = 0 → ldT (crS o.fs ks o.fs.length) false = t ∧ ldV (crS o.fs ks o.fs.length) false = v ∧ ldE (crS o.fs ks o.fs.length) false = 0) ∧
    (¬ o.r = 0 → ldT (crS o.fs ks o.fs.length) false = ldT fs false ∧ ldV (crS o.fs ks o.fs.length) false = ldV fs false ∧ ldE (crS o.fs ks o.fs.length) false = ldE fs false) := by
  have hda := encB_size t v ht hv
  have hq := (sq_all S hS fs (encB t v) hda fu h0 (fun f hf => (hs f hf).1) hlo hhi).2.2.2
  rw [← ho] at hq
  have hc : chkN (crS o.fs ks o.fs.length) = 0 := crash_chk hq.chk
  refine ⟨hq.chk, hc, hq.why, fun hr => ?_, fun hr => ?_⟩
  · have hl := hq.s4 rfl hr
    have hl2 := (crash_look (ks := ks) hq.chk hl rfl).2
    obtain ⟨e1, e2, e3⟩ := load_enc t v ht hv
    have hH : look [fH (encB t v)] nH = some (fH (encB t v)) := by unfold look; rw [idxHH]; rfl
    obtain ⟨l1, l2, l3⟩ := ld_look (chkH1 (encB t v)) hc (hl2.trans hH.symm)
    exact ⟨l1.trans e1, l2.trans e2, l3.trans e3⟩
  · refine ld_look h0 hc ?_
    have hk := hq.keep (.inr hr)
    cases hl : look fs nH with
    | none => rw [hl] at hk; exact (crash_none hq.chk hk).2
    | some f =>
      rw [hl] at hk
      exact (crash_look (ks := ks) hq.chk hk ((hs f (look_mem hl).1).2)).2
end Dk
end Go.Proofs.Ytpncflgcfndhmaa

/- LAW: HardTwo. -/
namespace Go.Proofs.Ytpncflgcfndhmaa
open Go.RowKit Go.Lib Go.Sort
namespace Dk
theorem St.new {w x : World} {v : Value} {dn : Bool} {fu : Int} {fs : List Fl} (hb : Below w.heap.size w x) (hf : Files x x.heap.size v fs) : St w x.heap.size (x.alloc (.cells #[v, .bool dn, .int .i64 fu] 24)) v dn fu fs :=
  ⟨hb.size, by simp, hb.alloc hb.size _, Dx.made _ _ _ _, hf.al _⟩
theorem files_lt {w : World} {B : Nat} {v : Value} {fs : List Fl} (h : Files w B v fs) (hn : 0 < fs.length) : ∀ b off n c, v = .slice (some ⟨b, off, none⟩) n c → b < B := by
  obtain ⟨a, c, rfl, -, -, h3⟩ := h
  obtain ⟨b, off, rfl, hlt, -⟩ := h3 hn
  intro b' off' n c' e
  simp only [Value.slice.injEq, Option.some.injEq, Addr.mk.injEq] at e
  omega
theorem St.fuse {w x : World} {B : Nat} {v : Value} {dn : Bool} {fu : Int} {fs : List Fl} (h : St w B x v dn fu fs) (hne : ∀ b off c, v = .slice (some ⟨b, off, none⟩) fs.length c → b ≠ B) (f : Int) : St w B (x.setCell ⟨B, 2, none⟩ (.int .i64 f)) v dn f fs := by
  obtain ⟨h1, h2, h3, ⟨d0, d1, d2, d3, d4, d5⟩, h5⟩ := h
  refine ⟨h1, by simpa using h2, bset h3 h1 _, ⟨?_, ?_, ?_, ?_, ?_, ?_⟩, h5.st _ _ hne⟩
  · exact (World.cell?_setCell_other _ _ _ _ (by simp)).trans d0
  · exact (World.cell?_setCell_other _ _ _ _ (by simp)).trans d1
  · exact World.cell?_setCell_same _ _ _ d2
  · exact (World.frozen?_setCell _ _ _ _).trans d3
  · exact (World.frozen?_setCell _ _ _ _).trans d4
  · exact (World.frozen?_setCell _ _ _ _).trans d5
def eqHd (t1 v1 t2 v2 : Int) : Bool := decide (t1 = t2) && decide (v1 = v2)
set_option maxRecDepth 100000 in
theorem eql_hard (t1 v1 t2 v2 : Int) (w : World) : (binOp .eql 27 (.agg #[.int .u64 t1, .int .i64 v1]) (.agg #[.int .u64 t2, .int .i64 v2])).run Try.prog w = .ok (.bool (eqHd t1 v1 t2 v2)) w := by
  have u3 := Try.underlying3
  have u9 := Try.underlying25
  have a3 := Try.isAgg3
  have a9 := Try.isAgg25
  have z3 := Try.sizeOf3
  have z9 := Try.sizeOf25
  have hS : Try.prog.underlying 27 = some (.struct (Try.prog.fieldsOf 27)) := by kernel_rfl
  have hp : Try.prog.stoodInHeld 27 = false := by kernel_rfl
  rw [run_eql_struct, show (10000 : Nat) = 9999 + 1 from rfl, run_equalIn_agg w 9999 27 _ _ hS hp]
  simp only [Program.fieldsOf, Try.underlying27]
  go_simp
  by_cases h1 : t1 = t2 <;> by_cases h2 : v1 = v2 <;> simp [h1, h2, eqHd]
theorem guard_hard : Try.prog.eqGuardType Try.prog.depth 27 = false := by kernel_rfl
theorem eqHd_self (t v : Int) : eqHd t v t v = true := by simp [eqHd]
theorem two_boxes {w w1 : World} {a b : Array Value} {t u : TypeId} (hb : Below ((w.alloc (.cells a t)).alloc (.cells b u)).heap.size ((w.alloc (.cells a t)).alloc (.cells b u)) w1) :
    (∀ i, w1.cell? ⟨w.heap.size, i, none⟩ = a[i]?) ∧ (∀ i, w1.cell? ⟨w.heap.size + 1, i, none⟩ = b[i]?) ∧ Below w.heap.size w w1 ∧ w.heap.size + 2 ≤ w1.heap.size := by
  refine ⟨fun i => ?_, fun i => ?_, (((Below.refl _ w).alloc (Nat.le_refl _) _).alloc (by simp) _).trans (hb.mono (by simp; omega)), by have := hb.size; simpa using this⟩
  · rw [hb.cell (by simp <;> omega)]; simp [go_sem]
  · rw [hb.cell (by simp)]; simp [go_sem]
def maxF (fu : Int) : Int := if fu < -1 then -1 else fu
set_option maxRecDepth 100000 in
set_option maxHeartbeats 8000000 in
theorem hardTwo_ok (ta va tb vb : Nat) (hta : ta < 2 ^ 64) (htb : tb < 2 ^ 64) (hva : va ≤ 7) (hvb : vb ≤ 7) (fu : Int) (hlo : -9223372036854775808 ≤ fu) (hhi : fu ≤ 9223372036854775807) (kv : Value) (ks : List Int) (w : World) (hk : Ints w w.heap.size kv ks) :
    Calls Try.prog 6 #[.agg #[.int .u64 ta, .int .i64 va], .agg #[.int .u64 tb, .int .i64 vb], .int .i64 fu, kv] w fun e w' => e = .returned (.bool true) ∧ Below w.heap.size w w' := by
  have hsz := encB_size ta va hta hva
  have hmlo : -9223372036854775808 ≤ maxF fu := by unfold maxF; split <;> omega
  have hmhi : maxF fu ≤ 9223372036854775807 := by unfold maxF; split <;> omega
  have h24 : ∀ f ∈ [fH (encB ta va)], f.da.size ≤ 140737488355328 ∧ f.sy = (f.da.size : Nat) := mem1 ⟨by show (encB ta va).size ≤ _; omega, rfl⟩
  have HSA := Lib.hid (fun x => save_nil ta va hta hva x)
  have hsb := fun dv x hf => save_any 140737488355328 (by omega) (by omega) dv [fH (encB ta va)] (maxF fu) (chkH1 _) (fun f hf => (h24 f hf).1) hmlo hmhi tb vb htb hvb x hf
  obtain ⟨o, ho⟩ : ∃ o, o = seqO nH nT (encB tb vb) [fH (encB ta va)] false (maxF fu) 4 := ⟨_, rfl⟩
  have hsm := (sq_all 140737488355328 (by omega) [fH (encB ta va)] (encB tb vb) (encB_size tb vb htb hvb) (maxF fu) (chkH1 _) (fun f hf => (h24 f hf).1) hmlo hmhi).2.2.2.small
  obtain ⟨q1, q2, q3, q4, q5⟩ := save_crash 140737488355328 (by omega) [fH (encB ta va)] (maxF fu) ks (chkH1 _) h24 hmlo hmhi tb vb htb hvb o ho
  rw [← ho] at hsb hsm
  obtain ⟨e1, e2, e3⟩ := load_enc ta va hta hva
  rw [e1, e2, e3] at q5
  have HCS := Lib.hid (crash_small (ks := ks) q1 hsm)
  rcases o with ⟨f4, dn4, fu4, r4⟩
  simp only at hsb q1 q2 q3 q4 q5 HCS
  have HSB := Lib.hid hsb
  have hr11 : r4 = 0 ∨ r4 = 8 := by
    rcases q3 with h | h | ⟨-, h⟩
    · exact .inl h
    · exact .inr h
    · simp at h
  have HCR := Lib.hid (fun x v hv hki => crash_own v kv dn4 fu4 f4 ks x hv hki q1)
  generalize crS f4 ks f4.length = f5 at *
  have HFI := Lib.hid (small_fine (S := 140737488355328) (by omega) q2 (fun f hf => (HCS.out f hf).1))
  have HLE : Hid (f5.length ≤ 4611686018427387904) := by have := (chk_fine _ q2).1; show f5.length ≤ _; omega
  have hld := fun v x hv => load_any v false (-1) f5 x hv
  unfold LoadIs at hld
  have HG : Hid (∃ gt gv : Nat, (r4 = 0 → gt = tb ∧ gv = vb) ∧ (¬ r4 = 0 → gt = ta ∧ gv = va) ∧ ∀ v x, Files x x.heap.size v f5 → Calls Try.prog 9 #[.agg #[v, .bool false, .int .i64 (-1)]] x fun e w' => e = .returned (.tuple #[.agg #[.int .u64 gt, .int .i64 gv], .int .i64 0]) ∧ Below x.heap.size x w') := by
    refine ⟨ldT f5 false, ldV f5 false, fun h => ⟨(q4 h).1, (q4 h).2.1⟩, fun h => ⟨(q5 h).1, (q5 h).2.1⟩, fun v x hv => ?_⟩
    have h0 : ldE f5 false = 0 := by
      by_cases h : r4 = 0
      · exact (q4 h).2.2
      · exact (q5 h).2.2
    have := hld v x hv
    rw [h0] at this
    exact this
  obtain ⟨gt, gv, g0, g1, hgl⟩ := HG.out
  have HGL := Lib.hid hgl
  have HCB := Lib.hid (fun x => Hd.check_any (tb : Nat) (vb : Nat) x)
  have hcb : Hd.chkH (vb : Nat) = 0 := by unfold Hd.chkH; rw [if_neg (by omega), if_neg (by omega)]
  rw [hcb] at HCB
  have HK := Lib.hid hk
  have HQ1 := Lib.hid q1
  have G0 := Lib.hid g0
  have G1 := Lib.hid g1
  generalize encB ta va = da at *
  have gf := guard_hard
  have HEQ := Lib.hid (fun t1 v1 t2 v2 w => eql_hard t1 v1 t2 v2 w)
  clear hsz hmlo hmhi h24 hsb hsm q1 q2 q3 q4 q5 e1 e2 e3 hld HG hgl g0 g1 hcb ho hk HCS
  go_enter Try.func6, Try.ntmps6
  go_wp2_with fail
  refine (hlives _).mono ?_
  rintro e w1 ⟨rfl, hb⟩
  obtain ⟨c0, c1, hbw, hz1⟩ := two_boxes hb
  have HW1 := Lib.hid hbw
  have C0 := Lib.hid c0
  have C1 := Lib.hid c1
  clear hb hbw c1
  go_wp2_with fail
  refine (HSA.out _).mono ?_
  rintro e w2 ⟨v2, rfl, hf, -, hb⟩
  obtain ⟨a2, c2, rfl⟩ : ∃ a c, v2 = .slice a 1 c := files_slice hf
  have HS2 := Lib.hid (St.new (dn := false) (fu := -1) hb hf)
  have HNE : Hid (∀ b off c, Value.slice a2 1 c2 = .slice (some ⟨b, off, none⟩) [fH da].length c → b ≠ w2.heap.size) := fun b off c e => by have := files_lt hf (by simp) b off _ c e; omega
  have k1 : ∀ i, (w2.alloc (.cells #[.slice a2 1 c2, .bool false, .int .i64 (-1)] 24)).cell? ⟨w.heap.size + 1, i, none⟩ = #[.int .u64 tb, .int .i64 vb][i]? := fun i => (HS2.out.below.cell (by show w.heap.size + 1 < _; omega)).trans (C1.out i)
  clear hb hf c0
  go_wp2_with fail
  refine (HCB.out _).mono ?_
  rintro e w3 ⟨rfl, hb⟩
  have HS3 := Lib.hid (HS2.out.keep hb)
  clear hb k1
  obtain ⟨d0, d1, d2, d3, d4, d5⟩ := HS3.out.dx
  have HS4 : Hid (St w1 w2.heap.size (w3.setCell ⟨w2.heap.size, 2, none⟩ (.int .i64 (maxF fu))) (.slice a2 1 c2) false (maxF fu) [fH da]) := HS3.out.fuse HNE.out _
  have k1 : ∀ i, (w3.setCell ⟨w2.heap.size, 2, none⟩ (.int .i64 (maxF fu))).cell? ⟨w.heap.size + 1, i, none⟩ = #[.int .u64 tb, .int .i64 vb][i]? := fun i => (HS4.out.below.cell (by show w.heap.size + 1 < _; omega)).trans (C1.out i)
  have hmx : max fu (-1) = maxF fu := by unfold maxF; split <;> omega
  go_wp2_with fail
  refine (HSB.out _ _ HS4.out.files).mono ?_
  rintro e w4 ⟨v4, rfl, hf4, -, hb⟩
  obtain ⟨a4, c4, rfl⟩ := files_slice hf4
  have HB4 := Lib.hid (HS4.out.below.trans (hb.mono HS4.out.below.size))
  have HS5 := Lib.hid (St.new (w := w1) (dn := dn4) (fu := fu4) HB4.out hf4)
  have HK5 := Lib.hid (HK.out.on ((HW1.out.trans (HB4.out.mono (by omega))).alloc (Nat.le_trans (by omega : w.heap.size ≤ w1.heap.size) HB4.out.size) (.cells #[.slice a4 f4.length c4, .bool dn4, .int .i64 fu4] 24)))
  clear hb hf4 k1 d0 d1 d2 d3 d4 d5 hmx
  generalize f4.length = n4 at *
  go_wp2_with fail
  refine (HCR.out _ _ HS5.out.files HK5.out).mono ?_
  intro e w5 hd
  obtain ⟨v5, rfl, ⟨a5, c5, rfl⟩, hs, hS, _⟩ := HS5.out.step hd HFI.out HLE.out
  have HS6 := Lib.hid hS
  unfold st3 at HS6
  obtain ⟨d0, d1, d2, d3, d4, d5⟩ := hs.dx
  clear hd hs hS
  generalize f5.length = n5 at *
  go_wp2_with fail
  refine (HGL.out _ _ HS6.out.files).mono ?_
  rintro e w6 ⟨rfl, hb⟩
  have HB6 := Lib.hid (HS6.out.below.trans (hb.mono HS6.out.below.size))
  have HAL := Lib.hid (HB6.out.alloc HB6.out.size (.cells #[.int .u64 gt, .int .i64 gv] 27))
  have m0 : ∀ i, (w6.alloc (.cells #[.int .u64 gt, .int .i64 gv] 27)).cell? ⟨w.heap.size, i, none⟩ = #[.int .u64 ta, .int .i64 va][i]? := fun i => (HAL.out.cell (by show w.heap.size < _; omega)).trans (C0.out i)
  have m1 : ∀ i, (w6.alloc (.cells #[.int .u64 gt, .int .i64 gv] 27)).cell? ⟨w.heap.size + 1, i, none⟩ = #[.int .u64 tb, .int .i64 vb][i]? := fun i => (HAL.out.cell (by show w.heap.size + 1 < _; omega)).trans (C1.out i)
  have HW9 : Hid (Below w.heap.size w (w6.alloc (.cells #[.int .u64 gt, .int .i64 gv] 27))) := HW1.out.trans (HAL.out.mono (by omega))
  clear hb d0 d1 d2 d3 d4 d5
  by_cases hr : r4 = 0
  · obtain ⟨e5, e6⟩ := G0.out hr
    subst e5 e6 hr
    have heq := HEQ.out gt gv gt gv
    rw [eqHd_self] at heq
    clear hr11 HS5 HCR
    go_wp2
    go_ret
    exact ⟨rfl, HW9.out⟩
  · obtain ⟨e5, e6⟩ := G1.out hr
    have hr8 : r4 = 8 := by omega
    subst e5 e6 hr8
    have heq := HEQ.out gt gv gt gv
    rw [eqHd_self] at heq
    have heq2 := HEQ.out gt gv tb vb
    clear hr hr11 HS5 HCR
    generalize eqHd (gt : Int) (gv : Int) (tb : Int) (vb : Int) = q at heq2
    cases q
    · go_wp2
      go_ret
      exact ⟨rfl, HW9.out⟩
    · go_wp2
      go_ret
      exact ⟨rfl, HW9.out⟩
set_option maxRecDepth 100000 in
set_option maxHeartbeats 4000000 in
theorem hardTwo_bada (ta va tb vb : Int) (hva : Hd.chkH va ≠ 0) (fu : Int) (kv : Value) (w : World) :
    Calls Try.prog 6 #[.agg #[.int .u64 ta, .int .i64 va], .agg #[.int .u64 tb, .int .i64 vb], .int .i64 fu, kv] w fun e w' => e = .returned (.bool true) ∧ Below w.heap.size w w' := by
  have HSA := Lib.hid (fun x => save_bad ta va hva x)
  have HCA := Lib.hid (fun x => Hd.check_any ta va x)
  have hv1 : Hd.chkH va = 1 := by unfold Hd.chkH at hva ⊢; split <;> simp_all
  rw [hv1] at HSA HCA
  clear hva hv1
  go_enter Try.func6, Try.ntmps6
  go_wp2_with fail
  refine (hlives _).mono ?_
  rintro e w1 ⟨rfl, hb⟩
  obtain ⟨c0, c1, hbw, hz1⟩ := two_boxes hb
  have HW1 := Lib.hid hbw
  have C0 := Lib.hid c0
  clear hb hbw c1
  go_wp2_with fail
  refine (HSA.out _).mono ?_
  rintro e w2 ⟨v2, rfl, hf, hb⟩
  obtain ⟨a2, c2, rfl⟩ : ∃ a c, v2 = .slice a 0 c := files_slice hf
  have HB2 := Lib.hid (hb.alloc hb.size (.cells #[.slice a2 0 c2, .bool false, .int .i64 (-1)] 24))
  have k0 : ∀ i, (w2.alloc (.cells #[.slice a2 0 c2, .bool false, .int .i64 (-1)] 24)).cell? ⟨w.heap.size, i, none⟩ = #[.int .u64 ta, .int .i64 va][i]? := fun i => (HB2.out.cell (by show w.heap.size < _; omega)).trans (C0.out i)
  clear hb hf c0
  go_wp2_with fail
  refine (HCA.out _).mono ?_
  rintro e w3 ⟨rfl, hb⟩
  have HW3 := Lib.hid (HW1.out.trans ((HB2.out.trans (hb.mono HB2.out.size)).mono (by omega)))
  clear hb k0
  go_wp2
  go_ret
  exact ⟨rfl, HW3.out⟩
set_option maxRecDepth 100000 in
set_option maxHeartbeats 4000000 in
theorem hardTwo_badb (ta va : Nat) (tb vb : Int) (hta : ta < 2 ^ 64) (hva : va ≤ 7) (hvb : Hd.chkH vb ≠ 0) (fu : Int) (kv : Value) (w : World) :
    Calls Try.prog 6 #[.agg #[.int .u64 ta, .int .i64 va], .agg #[.int .u64 tb, .int .i64 vb], .int .i64 fu, kv] w fun e w' => e = .returned (.bool true) ∧ Below w.heap.size w w' := by
  have HSA := Lib.hid (fun x => save_nil ta va hta hva x)
  have HCA := Lib.hid (fun x => Hd.check_any (ta : Nat) (va : Nat) x)
  have HCB := Lib.hid (fun x => Hd.check_any tb vb x)
  have hv1 : Hd.chkH vb = 1 := by unfold Hd.chkH at hvb ⊢; split <;> simp_all
  have hv0 : Hd.chkH (va : Nat) = 0 := by unfold Hd.chkH; rw [if_neg (by omega), if_neg (by omega)]
  rw [hv1] at HCB
  rw [hv0] at HCA
  generalize encB ta va = da at *
  clear hvb hv1 hv0
  go_enter Try.func6, Try.ntmps6
  go_wp2_with fail
  refine (hlives _).mono ?_
  rintro e w1 ⟨rfl, hb⟩
  obtain ⟨c0, c1, hbw, hz1⟩ := two_boxes hb
  have HW1 := Lib.hid hbw
  have C0 := Lib.hid c0
  have C1 := Lib.hid c1
  clear hb hbw c1
  go_wp2_with fail
  refine (HSA.out _).mono ?_
  rintro e w2 ⟨v2, rfl, hf, -, hb⟩
  obtain ⟨a2, c2, rfl⟩ : ∃ a c, v2 = .slice a 1 c := files_slice hf
  have HB2 := Lib.hid (hb.alloc hb.size (.cells #[.slice a2 1 c2, .bool false, .int .i64 (-1)] 24))
  have k1 : ∀ i, (w2.alloc (.cells #[.slice a2 1 c2, .bool false, .int .i64 (-1)] 24)).cell? ⟨w.heap.size + 1, i, none⟩ = #[.int .u64 tb, .int .i64 vb][i]? := fun i => (HB2.out.cell (by show w.heap.size + 1 < _; omega)).trans (C1.out i)
  clear hb hf c0
  go_wp2_with fail
  refine (HCB.out _).mono ?_
  rintro e w3 ⟨rfl, hb⟩
  have HB3 := Lib.hid (HB2.out.trans (hb.mono HB2.out.size))
  have k0 : ∀ i, w3.cell? ⟨w.heap.size, i, none⟩ = #[.int .u64 ta, .int .i64 va][i]? := fun i => (HB3.out.cell (by show w.heap.size < _; omega)).trans (C0.out i)
  clear hb k1
  go_wp2_with fail
  refine (HCA.out _).mono ?_
  rintro e w4 ⟨rfl, hb⟩
  have HW4 := Lib.hid (HW1.out.trans ((HB3.out.trans (hb.mono HB3.out.size)).mono (by omega)))
  clear hb k0
  go_wp2
  go_ret
  exact ⟨rfl, HW4.out⟩
theorem hardTwo (ta va tb vb : Int) (ha : (Lit.int .u64 ta).wf = true ∧ (Lit.int .i64 va).wf = true) (hb : (Lit.int .u64 tb).wf = true ∧ (Lit.int .i64 vb).wf = true) (fu : Int) (hfu : (Lit.int .i64 fu).wf = true) (kv : Value) (ks : List Int) (w : World) (hk : Ints w w.heap.size kv ks) :
    Calls Try.prog 6 #[.agg #[.int .u64 ta, .int .i64 va], .agg #[.int .u64 tb, .int .i64 vb], .int .i64 fu, kv] w fun e w' => e = .returned (.bool true) ∧ Below w.heap.size w w' := by
  have h1 : 0 ≤ ta ∧ ta ≤ 18446744073709551615 := by simpa [Lit.wf, IntKind.min, IntKind.max, IntKind.signed, IntKind.bits] using ha.1
  have h2 : 0 ≤ tb ∧ tb ≤ 18446744073709551615 := by simpa [Lit.wf, IntKind.min, IntKind.max, IntKind.signed, IntKind.bits] using hb.1
  have h3 : -9223372036854775808 ≤ fu ∧ fu ≤ 9223372036854775807 := by simpa [Lit.wf, IntKind.min, IntKind.max, IntKind.signed, IntKind.bits] using hfu
  by_cases hva : Hd.chkH va = 0
  · have h7 : 0 ≤ va ∧ va ≤ 7 := by unfold Hd.chkH at hva; split at hva <;> (try split at hva) <;> omega
    obtain ⟨ta, rfl⟩ := Int.eq_ofNat_of_zero_le h1.1
    obtain ⟨va, rfl⟩ := Int.eq_ofNat_of_zero_le h7.1
    by_cases hvb : Hd.chkH vb = 0
    · have h8 : 0 ≤ vb ∧ vb ≤ 7 := by unfold Hd.chkH at hvb; split at hvb <;> (try split at hvb) <;> omega
      obtain ⟨tb, rfl⟩ := Int.eq_ofNat_of_zero_le h2.1
      obtain ⟨vb, rfl⟩ := Int.eq_ofNat_of_zero_le h8.1
      exact hardTwo_ok ta va tb vb (by omega) (by omega) (by omega) (by omega) fu h3.1 h3.2 kv ks w hk
    · exact hardTwo_badb ta va tb vb (by omega) (by omega) hvb fu kv w
  · exact hardTwo_bada ta va tb vb hva fu kv w
end Dk
end Go.Proofs.Ytpncflgcfndhmaa

/- SAVING at any disk: what is refused. -/
namespace Go.Proofs.Ytpncflgcfndhmaa
open Go.RowKit Go.Lib Go.Sort
namespace Dk
set_option maxHeartbeats 1000000 in
theorem clone_any (v : Value) (fs : List Fl) (w : World) (hv : Files w w.heap.size v fs) (h4 : fs.length * 40 ≤ 140737488355328) :
    Calls Try.prog 31 #[v] w fun e w' => ∃ v', e = .returned v' ∧ Own w' w.heap.size v' fs ∧ Below w.heap.size w w' := by
  obtain ⟨a, c, rfl, hl, hs, hc⟩ := hv
  have q22 : ∀ (w : World) (a : Option Addr) (n c n' c' : Nat), (binOp .eql 22 (.slice a n c) (.slice none n' c')).run Try.prog w = .ok (.bool a.isNone) w := fun w a n c n' c' => Lib.run_eql_slice_nil w _ _ a n c n' c' Try.underlying22
  cases a with
  | none =>
    have h0 : fs = [] := by
      by_cases hn : 0 < fs.length
      · obtain ⟨b, off, he, _⟩ := hc hn; cases he
      · exact List.eq_nil_of_length_eq_zero (by omega)
    subst h0
    clear hc hs
    go_enter Try.func31, Try.ntmps31
    go_wp2
    go_ret
    exact ⟨_, rfl, World.ownsRow_nil _ _ _ _, Below.refl _ _⟩
  | some ad =>
    obtain ⟨i0, hi, hz0, hz1, hz2⟩ := info_parts info_file
    have A := Lib.hid (file_cells w (some ad) fs w.heap.size hc ad rfl)
    have hmx : fs.length ≤ maxLen := by simp only [maxLen]; omega
    have hl3 := flat_len fs
    have h1 := flat_one fs
    clear hc hs
    have H3 := Lib.hid hl3
    have H1 := Lib.hid h1
    clear hl3 h1
    generalize hx : flat fs = xs at A H3 H1
    have HX := Lib.hid hx
    clear hx
    go_enter Try.func31, Try.ntmps31
    go_wp2_with (at_builtin; refine wpList_append_own _ rfl _ _ 22 rfl w.heap.size 59 i0 _ 3 40 Try.underlying22 hi hz0 hz1 hz2 rfl (by omega) _ _ _ rfl (World.ownsRow_made w #[] 0 (Nat.le_refl _) (Nat.zero_le _) (by simp)) ad fs.length c xs rfl H3.out (fun j u hj => Lib.cell?_alloc_some _ (A.out j u hj)) H1.out (by rw [Nat.zero_add]; exact hmx) (by rw [Nat.zero_add]; omega) (by simp) ?_; intro v' w1 hown hgrow hnil)
    go_ret
    refine ⟨v', rfl, ?_, ?_⟩
    · unfold Own; rw [HX.out]; simpa using hown
    · exact ((Below.refl _ w).alloc (Nat.le_refl _) _).grown hgrow (by simp) (fun k hk => Nat.le_of_eq (Option.some.inj hk))
set_option maxRecDepth 100000 in
set_option maxHeartbeats 4000000 in
theorem do_rewrite_any (nf nt da : ByteArray) (o : Nat → Out) (hA : All4 nf nt da o) (h00 : (o 0).r = 0) (hstop : ∀ k, k ≤ 4 → (o k).r ≠ 0 → o 4 = o k) (h4 : (o 0).fs.length * 40 ≤ 140737488355328) (hfine : Fine (o 0).fs) (v : Value) (g pF pT pC : Nat) (w : World)
    (hv : Files w w.heap.size v (o 0).fs) (hr : Rw w g pF pT pC nf nt da) :
    Calls Try.prog 25 #[.agg #[v, .bool (o 0).dn, .int .i64 (o 0).fu], .slice (some ⟨g, 0, none⟩) 4 4] w (DoW w (.slice none 0 0) (o 4).fs (o 4).dn (o 4).fu (o 4).r) := by
  have HV := Lib.hid hv
  have HR := Lib.hid hr
  have HA := Lib.hid hA
  have HS := Lib.hid hstop
  have H0 := Lib.hid h00
  have hcl := fun w hw => clone_any v (o 0).fs w hw h4
  have HC := Lib.hid hcl
  obtain ⟨a, c, rfl, -⟩ := hv
  clear hA hstop h00 hr hcl
  unfold DoW
  go_enter Try.func25, Try.ntmps25
  go_wp2_with fail
  refine (HC.out _ ((HV.out.al _).al _)).mono ?_
  rintro e w1 ⟨v1, rfl, hown, hb⟩
  obtain ⟨a1, c1, rfl⟩ := hown.slice
  have HB := Lib.hid hb
  have HO := Lib.hid hown
  have hz := hb.size
  simp at hz
  obtain ⟨⟨x0, x1, x2⟩, x3, x4, x5⟩ := box2 (v := .slice a (o 0).fs.length c) (dn := (o 0).dn) (fu := (o 0).fu) (hb.mono (by simp))
  have k0 : ∀ i, w1.cell? ⟨w.heap.size, i, none⟩ = #[.slice a (o 0).fs.length c, .bool (o 0).dn, .int .i64 (o 0).fu][i]? := fun i => by rw [hb.cell (by simp; omega)]; simp [go_sem]
  have f0 : ∀ i, w1.frozen? ⟨w.heap.size, i, none⟩ = false := fun i => (hb.frozen (by simp; omega)).trans (by simp [go_sem])
  have HD0 : Hid (Dx w.heap.size (w1.setCell ⟨w.heap.size, 0, none⟩ (.slice a1 (o 0).fs.length c1)) (.slice a1 (o 0).fs.length c1) (o 0).dn (o 0).fu) := by
    show Dx _ _ _ _ _
    constructor <;> simp [go_sem, k0, f0]
  have HE0 : Hid (Dx (w.heap.size + 1) (w1.setCell ⟨w.heap.size, 0, none⟩ (.slice a1 (o 0).fs.length c1)) (.slice none 0 0) false 0) := by
    show Dx _ _ _ _ _
    constructor <;> simp [go_sem, x0, x1, x2, x3, x4, x5]
  have HW0 : Hid (Below w.heap.size w (w1.setCell ⟨w.heap.size, 0, none⟩ (.slice a1 (o 0).fs.length c1))) := bset (((((Below.refl _ _).alloc (Nat.le_refl _) _).alloc (by simp) _).trans (hb.mono (by simp; omega)))) (Nat.le_refl _) _
  have HF0 : Hid (Files (w1.setCell ⟨w.heap.size, 0, none⟩ (.slice a1 (o 0).fs.length c1)) (w1.setCell ⟨w.heap.size, 0, none⟩ (.slice a1 (o 0).fs.length c1)).heap.size (.slice a1 (o 0).fs.length c1) (o 0).fs) :=
    Own.files (HO.out.sb (by show w.heap.size < _; simp; omega) _) hfine (by omega)
  clear hb hown x0 x1 x2 x3 x4 x5 hfine h4
  go_wp2
  go_loopg [15] 4 (fun gg i wx => ∃ (k : Nat) (v : Value), k + gg = 4 ∧ i = .int .i64 k ∧ Aside ((o k).r = 0) ∧ Aside (Now w wx v (o k)))
  case atStart => exact ⟨0, _, by omega, rfl, H0.out, ⟨HD0.out, HE0.out, HF0.out, HO.out.hi.le (by simp), HW0.out, by simp; omega⟩⟩
  case round =>
    obtain ⟨k, v, hkg, rfl, HR0, HN⟩ := hrel
    obtain ⟨hd, he, hf, hhi, hbw, hlt1⟩ := HN.out
    have HD := Lib.hid hd
    have HE := Lib.hid he
    have HFL := Lib.hid hf
    have HHI := Lib.hid hhi
    have HRW := Lib.hid (HR.out.below hbw)
    have HBW := Lib.hid hbw
    have hlt0 : w.heap.size < wr.heap.size := by omega
    obtain ⟨av, cv, rfl⟩ := files_slice hf
    obtain ⟨d0, d1, d2, d3, d4, d5⟩ := hd
    obtain ⟨x0, x1, x2, x3, x4, x5⟩ := he
    clear hf hhi hbw HN k0 f0
    cases gk with
    | zero =>
      obtain rfl : k = 4 := by omega
      clear hkg
      have HR4 := HR0
      generalize hq : o 4 = o2 at *
      have HQ4 := Lib.hid hq
      clear hq
      rcases o2 with ⟨fs2, dn2, fu2, r2⟩
      obtain rfl : r2 = 0 := HR4.out
      simp only at *
      go_wp2
      refine bodyPost_disk rfl (w.heap.size + 1) (.slice av fs2.length cv) dn2 fu2 rfl rfl ?_ ?_ ?_ ?_
      case refine_1 => go_simp
      case refine_2 => go_simp
      case refine_3 => go_simp
      case refine_4 => first | exact state_end0 HFL.out HHI.out HBW.out | (rw [HQ4.out]; exact state_end0 HFL.out HHI.out HBW.out)
    | succ gg =>
      have HG := Lib.hid hkg
      have hk : k = 0 ∨ k = 1 ∨ k = 2 ∨ k = 3 := by omega
      clear hkg
      rcases hk with rfl | rfl | rfl | rfl
      · obtain ⟨q0, q1, q2, q3, -⟩ := HRW.out
        have HK := Lib.hid (HA.out.c0 HR0.out wr g pF pT pC (.slice av (o 0).fs.length cv) HFL.out HRW.out)
        clear q1 q2 q3
        generalize hq : o 1 = o2 at *
        have HQ := Lib.hid hq
        clear hq
        go_wp2_with fail
        refine HK.out.mono ?_
        rintro e w2 ⟨v2, rfl, hf2, hh2, hb2⟩
        have HH2 := Lib.hid (hh2 _ (by omega) HHI.out)
        have HF2 := Lib.hid hf2
        obtain ⟨a2, c2, rfl⟩ := files_slice hf2
        have e0 := Dx.on HD.out hb2 hlt0
        have e1 := Dx.on HE.out hb2 hlt1
        obtain ⟨d0, d1, d2, d3, d4, d5⟩ := e0
        obtain ⟨x0, x1, x2, x3, x4, x5⟩ := e1
        have hz2 := hb2.size
        have HB2 := Lib.hid (HBW.out.trans (hb2.mono (by omega)))
        have HD2 := Lib.hid (Dx.on HD.out hb2 hlt0)
        have HE2 := Lib.hid (Dx.on HE.out hb2 hlt1)
        clear hf2 hh2 hb2
        rcases o2 with ⟨fs2, dn2, fu2, r2⟩
        simp only at *
        by_cases hr2 : r2 = 0
        · subst hr2
          go_wp2
          go_roundg gg
          case measure => omega
          case rel => exact ⟨1, .slice a2 fs2.length c2, by have := HG.out; omega, rfl, by show (o 1).r = 0; rw [HQ.out], by
            rw [HQ.out]
            exact state_next HD2.out HE2.out HF2.out HH2.out HB2.out (by omega)⟩
        · have hr3 : ¬ ((r2 : Int) = 0) := by omega
          have hr4 : ((r2 : Int) != 0) = true := by simp; omega
          have HST : Hid (o 4 = ⟨fs2, dn2, fu2, r2⟩) := (HS.out 1 (by omega) (by rw [HQ.out]; exact hr2)).trans HQ.out
          clear hr2
          go_wp2
          refine bodyPost_disk rfl (w.heap.size + 1) (.slice a2 fs2.length c2) dn2 fu2 rfl rfl ?_ ?_ ?_ ?_
          case refine_1 => go_simp
          case refine_2 => go_simp
          case refine_3 => go_simp
          case refine_4 =>
            rw [HST.out]
            exact state_end HF2.out HH2.out HB2.out
      · obtain ⟨q0, q1, q2, q3, -⟩ := HRW.out
        have HK := Lib.hid (HA.out.c1 HR0.out wr g pF pT pC (.slice av (o 1).fs.length cv) HFL.out HRW.out)
        clear q0 q2 q3
        generalize hq : o 2 = o2 at *
        have HQ := Lib.hid hq
        clear hq
        go_wp2_with fail
        refine HK.out.mono ?_
        rintro e w2 ⟨v2, rfl, hf2, hh2, hb2⟩
        have HH2 := Lib.hid (hh2 _ (by omega) HHI.out)
        have HF2 := Lib.hid hf2
        obtain ⟨a2, c2, rfl⟩ := files_slice hf2
        have e0 := Dx.on HD.out hb2 hlt0
        have e1 := Dx.on HE.out hb2 hlt1
        obtain ⟨d0, d1, d2, d3, d4, d5⟩ := e0
        obtain ⟨x0, x1, x2, x3, x4, x5⟩ := e1
        have hz2 := hb2.size
        have HB2 := Lib.hid (HBW.out.trans (hb2.mono (by omega)))
        have HD2 := Lib.hid (Dx.on HD.out hb2 hlt0)
        have HE2 := Lib.hid (Dx.on HE.out hb2 hlt1)
        clear hf2 hh2 hb2
        rcases o2 with ⟨fs2, dn2, fu2, r2⟩
        simp only at *
        by_cases hr2 : r2 = 0
        · subst hr2
          go_wp2
          go_roundg gg
          case measure => omega
          case rel => exact ⟨2, .slice a2 fs2.length c2, by have := HG.out; omega, rfl, by show (o 2).r = 0; rw [HQ.out], by
            rw [HQ.out]
            exact state_next HD2.out HE2.out HF2.out HH2.out HB2.out (by omega)⟩
        · have hr3 : ¬ ((r2 : Int) = 0) := by omega
          have hr4 : ((r2 : Int) != 0) = true := by simp; omega
          have HST : Hid (o 4 = ⟨fs2, dn2, fu2, r2⟩) := (HS.out 2 (by omega) (by rw [HQ.out]; exact hr2)).trans HQ.out
          clear hr2
          go_wp2
          refine bodyPost_disk rfl (w.heap.size + 1) (.slice a2 fs2.length c2) dn2 fu2 rfl rfl ?_ ?_ ?_ ?_
          case refine_1 => go_simp
          case refine_2 => go_simp
          case refine_3 => go_simp
          case refine_4 =>
            rw [HST.out]
            exact state_end HF2.out HH2.out HB2.out
      · obtain ⟨q0, q1, q2, q3, -⟩ := HRW.out
        have HK := Lib.hid (HA.out.c2 HR0.out wr g pF pT pC (.slice av (o 2).fs.length cv) HFL.out HRW.out)
        clear q0 q1 q3
        generalize hq : o 3 = o2 at *
        have HQ := Lib.hid hq
        clear hq
        go_wp2_with fail
        refine HK.out.mono ?_
        rintro e w2 ⟨v2, rfl, hf2, hh2, hb2⟩
        have HH2 := Lib.hid (hh2 _ (by omega) HHI.out)
        have HF2 := Lib.hid hf2
        obtain ⟨a2, c2, rfl⟩ := files_slice hf2
        have e0 := Dx.on HD.out hb2 hlt0
        have e1 := Dx.on HE.out hb2 hlt1
        obtain ⟨d0, d1, d2, d3, d4, d5⟩ := e0
        obtain ⟨x0, x1, x2, x3, x4, x5⟩ := e1
        have hz2 := hb2.size
        have HB2 := Lib.hid (HBW.out.trans (hb2.mono (by omega)))
        have HD2 := Lib.hid (Dx.on HD.out hb2 hlt0)
        have HE2 := Lib.hid (Dx.on HE.out hb2 hlt1)
        clear hf2 hh2 hb2
        rcases o2 with ⟨fs2, dn2, fu2, r2⟩
        simp only at *
        by_cases hr2 : r2 = 0
        · subst hr2
          go_wp2
          go_roundg gg
          case measure => omega
          case rel => exact ⟨3, .slice a2 fs2.length c2, by have := HG.out; omega, rfl, by show (o 3).r = 0; rw [HQ.out], by
            rw [HQ.out]
            exact state_next HD2.out HE2.out HF2.out HH2.out HB2.out (by omega)⟩
        · have hr3 : ¬ ((r2 : Int) = 0) := by omega
          have hr4 : ((r2 : Int) != 0) = true := by simp; omega
          have HST : Hid (o 4 = ⟨fs2, dn2, fu2, r2⟩) := (HS.out 3 (by omega) (by rw [HQ.out]; exact hr2)).trans HQ.out
          clear hr2
          go_wp2
          refine bodyPost_disk rfl (w.heap.size + 1) (.slice a2 fs2.length c2) dn2 fu2 rfl rfl ?_ ?_ ?_ ?_
          case refine_1 => go_simp
          case refine_2 => go_simp
          case refine_3 => go_simp
          case refine_4 =>
            rw [HST.out]
            exact state_end HF2.out HH2.out HB2.out
      · obtain ⟨q0, q1, q2, q3, -⟩ := HRW.out
        have HK := Lib.hid (HA.out.c3 HR0.out wr g pF pT pC (.slice av (o 3).fs.length cv) HFL.out HRW.out)
        clear q0 q1 q2
        generalize hq : o 4 = o2 at *
        have HQ := Lib.hid hq
        clear hq
        go_wp2_with fail
        refine HK.out.mono ?_
        rintro e w2 ⟨v2, rfl, hf2, hh2, hb2⟩
        have HH2 := Lib.hid (hh2 _ (by omega) HHI.out)
        have HF2 := Lib.hid hf2
        obtain ⟨a2, c2, rfl⟩ := files_slice hf2
        have e0 := Dx.on HD.out hb2 hlt0
        have e1 := Dx.on HE.out hb2 hlt1
        obtain ⟨d0, d1, d2, d3, d4, d5⟩ := e0
        obtain ⟨x0, x1, x2, x3, x4, x5⟩ := e1
        have hz2 := hb2.size
        have HB2 := Lib.hid (HBW.out.trans (hb2.mono (by omega)))
        have HD2 := Lib.hid (Dx.on HD.out hb2 hlt0)
        have HE2 := Lib.hid (Dx.on HE.out hb2 hlt1)
        clear hf2 hh2 hb2
        rcases o2 with ⟨fs2, dn2, fu2, r2⟩
        simp only at *
        by_cases hr2 : r2 = 0
        · subst hr2
          go_wp2
          go_roundg gg
          case measure => omega
          case rel => exact ⟨4, .slice a2 fs2.length c2, by have := HG.out; omega, rfl, by show (o 4).r = 0; rw [HQ.out], by
            rw [HQ.out]
            exact state_next HD2.out HE2.out HF2.out HH2.out HB2.out (by omega)⟩
        · have hr3 : ¬ ((r2 : Int) = 0) := by omega
          have hr4 : ((r2 : Int) != 0) = true := by simp; omega
          have HST : Hid (True) := trivial
          clear hr2
          go_wp2
          refine bodyPost_disk rfl (w.heap.size + 1) (.slice a2 fs2.length c2) dn2 fu2 rfl rfl ?_ ?_ ?_ ?_
          case refine_1 => go_simp
          case refine_2 => go_simp
          case refine_3 => go_simp
          case refine_4 =>
            first | exact state_end HF2.out HH2.out HB2.out | (rw [HQ.out]; exact state_end HF2.out HH2.out HB2.out)
theorem outO_bad {fs ch : List Fl} {dn : Bool} {fu : Int} {r : Nat} {ad : Bool} (h : chkN fs ≠ 0) : outO fs dn fu r ch ad = ⟨[], false, 0, 10⟩ := by unfold outO; rw [if_neg h]
theorem outO_dn {fs ch : List Fl} {fu : Int} {r : Nat} {ad : Bool} (h : chkN fs = 0) : outO fs true fu r ch ad = ⟨fs, true, fu, 8⟩ := by unfold outO; rw [if_pos h, if_pos rfl]
/-- What a save comes to at a disk that is not right, or without power. -/
theorem seq_wrong (da : ByteArray) (fs : List Fl) (dn : Bool) (fu : Int) (h : chkN fs ≠ 0 ∨ dn = true) : ∃ o : Out, ¬ o.r = 0 ∧ (o = ⟨[], false, 0, 10⟩ ∨ o = ⟨fs, true, fu, 8⟩) ∧ ∀ k, 1 ≤ k → seqO nH nT da fs dn fu k = o := by
  have h1 : seqO nH nT da fs dn fu 1 = rw1 nT fs dn fu := by
    rw [seq_succ]
    show thenO ⟨fs, dn, fu, 0⟩ (stp nH nT da 0) = _
    rw [thenO_ok rfl]; rfl
  have key : ∀ o : Out, ¬ o.r = 0 → rw1 nT fs dn fu = o → ∀ k, 1 ≤ k → seqO nH nT da fs dn fu k = o := by
    intro o hr he k hk
    obtain ⟨j, rfl⟩ : ∃ j, k = 1 + j := ⟨k - 1, by omega⟩
    have h9 : (seqO nH nT da fs dn fu 1).r ≠ 0 := by rw [h1, he]; exact hr
    rw [seq_stop nH nT da fs dn fu 1 h9 j, h1, he]
  by_cases h0 : chkN fs = 0
  · have hd : dn = true := by rcases h with h | h; exact absurd h0 h; exact h
    subst hd
    refine ⟨⟨fs, true, fu, 8⟩, by show ¬ (8 : Nat) = 0; omega, .inr rfl, key _ (by show ¬ (8 : Nat) = 0; omega) ?_⟩
    unfold rw1
    have h6 : ¬ rdE fs true nT = 6 := by unfold rdE rdN; rw [if_pos h0]; simp
    rw [if_neg h6]
    exact outO_dn h0
  · refine ⟨⟨[], false, 0, 10⟩, by show ¬ (10 : Nat) = 0; omega, .inl rfl, key _ (by show ¬ (10 : Nat) = 0; omega) ?_⟩
    unfold rw1
    have h6 : ¬ rdE fs dn nT = 6 := by unfold rdE rdN; rw [if_neg h0]; simp
    rw [if_neg h6]
    exact outO_bad h0
/-- Save at a disk that is not right, or without power: an error, and some disk. -/
theorem save_wrong (dv : Value) (fs : List Fl) (dn : Bool) (fu : Int) (h : chkN fs ≠ 0 ∨ dn = true) (h40 : fs.length * 40 ≤ 140737488355328) (hs : ∀ f ∈ fs, f.da.size ≤ 140737488355328) (hlo : -9223372036854775808 ≤ fu) (hhi : fu ≤ 9223372036854775807) (t v : Nat) (ht : t < 2 ^ 64) (hv : v ≤ 7) (w : World) (hf : Files w w.heap.size dv fs) :
    ∃ fs2 dn2 fu2 r2, ¬ r2 = 0 ∧ Calls Try.prog 11 #[.agg #[dv, .bool dn, .int .i64 fu], .agg #[.int .u64 (t : Nat), .int .i64 (v : Nat)]] w (DoW w (.slice none 0 0) fs2 dn2 fu2 r2) := by
  have hda := encB_size t v ht hv
  obtain ⟨o, hr, ho, hk⟩ := seq_wrong (encB t v) fs dn fu h
  have hfine := hf.fine
  have hi0 : Inv (encB t v).size ⟨fs, dn, fu, 0⟩ := ⟨hlo, hhi, hfine, by show fs.length ≤ _; omega, fun f hf => by have := hs f hf; omega⟩
  have hio : Inv (encB t v).size o := by
    rcases ho with rfl | rfl
    · exact ⟨by show (-9223372036854775808 : Int) ≤ 0; omega, by show (0 : Int) ≤ 9223372036854775807; omega, (fun f hf => by cases hf), by show (0 : Nat) ≤ _; omega, (fun f hf => by cases hf)⟩
    · exact ⟨hlo, hhi, hfine, by show fs.length ≤ _; omega, fun f hf => by have := hs f hf; omega⟩
  have hi : ∀ k, k ≤ 4 → Inv (encB t v).size (seqO nH nT (encB t v) fs dn fu k) := by
    intro k hk4
    by_cases h0 : k = 0
    · subst h0; exact hi0
    · rw [hk k (by omega)]; exact hio
  have hA := all4 nH nT (encB t v) fs dn fu (by omega) hi
  refine ⟨o.fs, o.dn, o.fu, o.r, hr, ?_⟩
  refine save_ok dv dn fu fs t v o ht hv (fun x g pF pT pC hx hr => ?_) w hf
  have := do_rewrite_any nH nT (encB t v) (seqO nH nT (encB t v) fs dn fu) hA rfl (fun k hk4 hr => by
    by_cases h0 : k = 0
    · subst h0; exact absurd rfl hr
    · rw [hk k (by omega), hk 4 (by omega)]) h40 hfine dv g pF pT pC x hx hr
  rw [hk 4 (by omega)] at this
  exact this
/-- None at any disk: some disk. -/
def SomeD (w : World) (e : Ending) (w' : World) : Prop := ∃ (v' : Value) (dn' : Bool) (fu' : Int) (fs' : List Fl), e = .returned (.agg #[v', .bool dn', .int .i64 fu']) ∧ Files w' w'.heap.size v' fs' ∧ Below w.heap.size w w'
set_option maxRecDepth 100000 in
set_option maxHeartbeats 4000000 in
theorem none_any (dv : Value) (dn : Bool) (fu : Int) (fs : List Fl) (w : World) (hf : Files w w.heap.size dv fs) : Calls Try.prog 24 #[.agg #[dv, .bool dn, .int .i64 fu]] w (SomeD w) := by
  have HC0 := Lib.hid (fun x hx => check_own dv dn fu fs x hx)
  have HF := Lib.hid hf
  have hfine := hf.fine
  by_cases h0 : chkN fs = 0
  · rw [h0] at HC0
    have h4 := (chk_fine fs h0).1
    have HCL := Lib.hid (fun x hx => clone_own dv fs x hx h4)
    have HFI := Lib.hid hfine
    obtain ⟨a, c, rfl⟩ := files_slice hf
    generalize hn : fs.length = n at *
    have HN := Lib.hid hn
    clear hf h0 hfine hn
    unfold SomeD
    go_enter Try.func24, Try.ntmps24
    go_wp2_with (go_at_call 30; go_loud (refine (HC0.out _ ((HF.out.al _).al _)).mono ?_; rintro e w1 ⟨rfl, hb⟩; obtain ⟨hd, he, hw, hz⟩ := two_made _ _ _ _ _ _ _ _ hb; have HD1 := Lib.hid hd; have HE1 := Lib.hid he; have HW1 := Lib.hid hw; have HZ1 := Lib.hid hz; obtain ⟨d0, d1, d2, d3, d4, d5⟩ := hd; clear hb he hw hz))
    go_wp2_with (go_at_call 31; go_loud (refine (HCL.out _ (HF.out.on HW1.out HW1.out.size)).mono ?_; rintro e w2 ⟨v2, rfl, hown, hb⟩; obtain ⟨a2, c2, hv2⟩ := hown.slice; rw [HN.out] at hv2; subst hv2; obtain ⟨d0, d1, d2, d3, d4, d5⟩ := HD1.out.keep hb (Nat.lt_of_lt_of_le (by omega) HZ1.out); obtain ⟨x0, x1, x2, x3, x4, x5⟩ := HE1.out.keep hb (Nat.lt_of_lt_of_le (by omega) HZ1.out); have HB2 := Lib.hid (HW1.out.trans (hb.mono HW1.out.size)); have HI2 := Lib.hid (hown.hi); have HF2 := Lib.hid (hown.files HFI.out (by rw [HN.out]; omega)); clear hb hown))
    go_wp2
    refine bodyPost_disk1 rfl (w.heap.size + 1) (.slice a2 n c2) dn fu rfl rfl ?_ ?_ ?_ ?_
    case refine_1 => go_simp
    case refine_2 => go_simp
    case refine_3 => go_simp
    case refine_4 => exact ⟨_, _, _, fs, rfl, ((HF2.out.put (HI2.out.le (B := w.heap.size + 2) (by have := HZ1.out; omega)) (by omega)).put3 (HI2.out.le (B := w.heap.size + 2) (by have := HZ1.out; omega)) (by omega)), below3 (bset HB2.out (Nat.le_refl _) _) (Nat.le_succ _)⟩
  · have h10 := (chk_two fs).resolve_left h0
    rw [h10] at HC0
    obtain ⟨a, c, rfl⟩ := files_slice hf
    generalize fs.length = n at *
    clear hf h0 hfine
    unfold SomeD
    go_enter Try.func24, Try.ntmps24
    go_wp2_with (go_at_call 30; go_loud (refine (HC0.out _ ((HF.out.al _).al _)).mono ?_; rintro e w1 ⟨rfl, hb⟩; obtain ⟨hd, he, hw, hz⟩ := two_made _ _ _ _ _ _ _ _ hb; have HE1 := Lib.hid he; have HW1 := Lib.hid hw; have HZ1 := Lib.hid hz; obtain ⟨x0, x1, x2, x3, x4, x5⟩ := he; clear hb hd hw hz))
    go_wp2
    refine bodyPost_disk1 rfl (w.heap.size + 1) (.slice none 0 0) false 0 rfl rfl ?_ ?_ ?_ ?_
    case refine_1 => go_simp
    case refine_2 => go_simp
    case refine_3 => go_simp
    case refine_4 => exact ⟨_, _, _, [], rfl, ⟨none, 0, rfl, by simp, by simp, by simp⟩, by first | exact HW1.out | exact below3 HW1.out (Nat.le_succ _)⟩
set_option maxRecDepth 100000 in
set_option maxHeartbeats 4000000 in
theorem save_badv (dv : Value) (dn : Bool) (fu : Int) (fs : List Fl) (t v : Int) (hv : Hd.chkH v ≠ 0) (w : World) (hf : Files w w.heap.size dv fs) :
    Calls Try.prog 11 #[.agg #[dv, .bool dn, .int .i64 fu], .agg #[.int .u64 t, .int .i64 v]] w fun e w' => ∃ a' n' c' dn' fu', e = .returned (.tuple #[.agg #[.slice a' n' c', .bool dn', .int .i64 fu'], .int .i64 1]) ∧ Below w.heap.size w w' := by
  have HCK := Lib.hid (fun w => Hd.check_any t v w)
  have hv1 : Hd.chkH v = 1 := by unfold Hd.chkH at hv ⊢; split <;> simp_all
  rw [hv1] at HCK
  have HF := Lib.hid hf
  have HN := Lib.hid (fun x hx => none_any dv dn fu fs x hx)
  unfold SomeD at HN
  obtain ⟨a, c, rfl⟩ := files_slice hf
  generalize fs.length = n at *
  clear hv hv1 hf
  go_enter Try.func11, Try.ntmps11
  go_wp2_with (go_at_call 15; go_loud (refine (HCK.out _).mono ?_; rintro e w1 ⟨rfl, hb⟩; obtain ⟨hd, he, hw, hz⟩ := three_made _ _ _ _ _ _ _ _ _ _ hb; have HD1 := Lib.hid hd; have HE1 := Lib.hid he; have HW1 := Lib.hid hw; have HZ1 := Lib.hid hz; obtain ⟨d0, d1, d2, d3, d4, d5⟩ := hd; clear hb he hw hz))
  go_wp2_with (go_at_call 24; go_loud (refine (HN.out _ (HF.out.on HW1.out HW1.out.size)).mono ?_; rintro e w2 ⟨v2, dn2, fu2, fs2, rfl, hf2, hb⟩; obtain ⟨a2, c2, rfl⟩ := files_slice hf2; obtain ⟨x0, x1, x2, x3, x4, x5⟩ := HE1.out.keep hb (Nat.lt_of_lt_of_le (by omega) HZ1.out); have HB2 := Lib.hid (HW1.out.trans (hb.mono HW1.out.size)); have HF2 := Lib.hid hf2; clear hb hf2))
  go_wp2
  refine bodyPost_disk rfl (w.heap.size + 1 + 1) (.slice a2 fs2.length c2) dn2 fu2 rfl rfl ?_ ?_ ?_ ?_
  case refine_1 => go_simp
  case refine_2 => go_simp
  case refine_3 => go_simp
  case refine_4 => exact ⟨_, _, _, _, _, rfl, below3 HB2.out (by omega)⟩
end Dk
end Go.Proofs.Ytpncflgcfndhmaa

/- ARGUMENTS: a slice of terms and votes that came in. -/
namespace Go.Proofs.Ytpncflgcfndhmaa
open Go.RowKit Go.WideShapes Go.ChangeShapes Go.Lib Go.Sort
namespace Dk
structure Hv where
  t : Nat
  v : Int
/-- v is a slice of terms and votes, in memory below block B. -/
def Hards (w : World) (B : Nat) (v : Value) (l : List Hv) : Prop :=
  ∃ a c, v = .slice a l.length c ∧ l.length ≤ 4611686018427387904 ∧ (∀ h ∈ l, h.t < 2 ^ 64) ∧
    (0 < l.length → ∃ b off, a = some ⟨b, off, none⟩ ∧ b < B ∧ ∀ i (h : i < l.length), w.cell? ⟨b, off + i * 2, none⟩ = some (.int .u64 l[i].t) ∧ w.cell? ⟨b, off + i * 2 + 1, none⟩ = some (.int .i64 l[i].v))
set_option maxRecDepth 100000 in
theorem hards_of {H : Type} {enc : TypeId × Value → H} {w : World} {v : Value} {d : DataW H} {ps : List MemPlace} {base : Nat}
    (ho : Value.okWide Try.prog w .any base 41 v) (hk : DataW.Trod enc Try.prog w 0 (fun _ => true) true 41 v d ps) (hw : ∀ n ∈ d.weights Try.prog 41, n ≤ reachBytes) :
    ∃ l, Hards w w.heap.size v l := by
  have ht := Try.underlying41
  obtain ⟨a0, len0, cap0, rfl⟩ := okWide_slice ht ho
  obtain ⟨fuel, hf⟩ := hk
  rcases DataW.trod_slice ht hf with ⟨hcs, -⟩ | ⟨a, len, cap, elems, rest, m, -, hcs, hx, hb, hl, hm, hlen, hel, -, -⟩
  · simp [Value.cells] at hcs
    obtain ⟨rfl, rfl, rfl⟩ := hcs
    exact ⟨[], none, 0, rfl, by simp, by simp, by simp⟩
  · simp [Value.cells] at hcs
    obtain ⟨rfl, rfl, rfl⟩ := hcs
    cases hx
    have hln := slice_len ht hw
    rw [show Try.prog.bytesOf 27 = 16 from rfl, List.length_map, hlen] at hln
    have each : ∀ i, i < len0 → ∃ x : Hv, (w.cell? (a.add (i * 2)) = some (.int .u64 x.t) ∧ w.cell? ((a.add (i * 2)).add 1) = some (.int .i64 x.v)) ∧ x.t < 2 ^ 64 := by
      intro i hi
      have hy := hel i hi
      rw [List.getElem?_eq_getElem (by omega : i < elems.length), show Try.prog.cellsOf 27 = 2 from rfl, Option.bind_eq_some_iff] at hy
      obtain ⟨cs', hcs, hy'⟩ := hy
      have hu := Try.underlying27
      obtain ⟨xs, m', -, -, hl', hlen', hf'⟩ := DataW.trod_struct hu hy'
      match xs, hlen' with
      | [y0, y1], _ =>
        have hl2 : cs'.length = 2 := hl'
        match cs', hl2 with
        | [c0, c1], _ =>
          have t0 : DataW.trod enc Try.prog w 0 (fun _ => true) true m' 25 [c0] = some y0 := hf' 0 _ rfl
          have t1 : DataW.trod enc Try.prog w 0 (fun _ => true) true m' 3 [c1] = some y1 := hf' 1 _ rfl
          obtain ⟨s0, e0, -, z0⟩ := DataW.trod_int Try.underlying25 t0
          obtain ⟨s1, e1, -, z1⟩ := DataW.trod_int Try.underlying3 t1
          cases e0
          cases e1
          have h1 : 0 ≤ s0 ∧ s0 ≤ 18446744073709551615 := by simpa [Lit.wf, IntKind.min, IntKind.max, IntKind.signed, IntKind.bits] using z0
          obtain ⟨s0, rfl⟩ := Int.eq_ofNat_of_zero_le h1.1
          obtain ⟨-, -, hcell⟩ := World.cells?_some hcs
          refine ⟨⟨s0, s1⟩, ⟨?_, hcell 1 (by omega)⟩, by show s0 < 2 ^ 64; omega⟩
          have := hcell 0 (by omega)
          rw [block_add0] at this
          exact this
    obtain ⟨l, hfl, hfs⟩ := list_of _ len0 each
    refine ⟨l, some a, cap0, by rw [hfl], by rw [hfl]; simp only [reachBytes] at hln; omega, fun x hx => ?_, fun hp => ?_⟩
    · obtain ⟨i, hi, rfl⟩ := List.getElem_of_mem hx
      exact (hfs i hi).2
    · have hz := (hfs 0 hp).1.1
      have hx := World.block_lt_of_cell? w _ hz
      have hsp : a.spot = none := by
        have := spot_none w _ _ hz
        simpa [Addr.add] using this
      refine ⟨a.block, a.off, by cases a; simp_all, by simpa [Addr.add] using hx, fun i hi => ?_⟩
      have hh := (hfs i hi).1
      simp only [add_form a _ hsp, Addr.add_lit] at hh
      exact hh
end Dk
end Go.Proofs.Ytpncflgcfndhmaa

/- LAW: HardOthers. -/
namespace Go.Proofs.Ytpncflgcfndhmaa
open Go.RowKit Go.Lib Go.Sort
namespace Dk
/-- What is known of the disk between two saves. -/
structure OkD (l0 : List Fl) (dn0 : Bool) (fs : List Fl) (dn : Bool) (fu : Int) : Prop where
  len : fs.length * 40 ≤ 140737488355328
  small : ∀ f ∈ fs, f.da.size ≤ 140737488355328
  lo : -9223372036854775808 ≤ fu
  hi : fu ≤ 9223372036854775807
  same : ∀ nm, nm ≠ nH → nm ≠ nT → rdS fs dn nm = rdS l0 dn0 nm ∧ rdE fs dn nm = rdE l0 dn0 nm
theorem rd_same {fs gs : List Fl} (h0 : chkN fs = 0) (h1 : chkN gs = 0) {nm : ByteArray} (hl : look gs nm = look fs nm) : rdS gs false nm = rdS fs false nm ∧ rdE gs false nm = rdE fs false nm := by
  cases hf : look fs nm with
  | none =>
    rw [hf] at hl
    obtain ⟨a1, a2⟩ := rd_none h0 hf
    obtain ⟨b1, b2⟩ := rd_none h1 hl
    exact ⟨b1.trans a1.symm, b2.trans a2.symm⟩
  | some f =>
    rw [hf] at hl
    obtain ⟨a1, a2⟩ := rd_some h0 hf
    obtain ⟨b1, b2⟩ := rd_some h1 hl
    exact ⟨b1.trans a1.symm, b2.trans a2.symm⟩
/-- A save that is refused, and one that is done. -/
def SaveNo (fs : List Fl) (dn : Bool) (fu : Int) (t : Nat) (hv : Int) : Prop := ∀ dv x, Files x x.heap.size dv fs → Calls Try.prog 11 #[.agg #[dv, .bool dn, .int .i64 fu], .agg #[.int .u64 t, .int .i64 hv]] x fun e w' => ∃ (a : Option Addr) (n c : Nat) (dn' : Bool) (fu' : Int) (r : Nat), ¬ r = 0 ∧ e = .returned (.tuple #[.agg #[.slice a n c, .bool dn', .int .i64 fu'], .int .i64 r]) ∧ Below x.heap.size x w'
def SaveYes (l0 : List Fl) (dn0 : Bool) (fs : List Fl) (dn : Bool) (fu : Int) (t : Nat) (hv : Int) (fs2 : List Fl) (fu2 : Int) : Prop :=
  OkD l0 dn0 fs2 false fu2 ∧ (∀ dv x, Files x x.heap.size dv fs → Calls Try.prog 11 #[.agg #[dv, .bool dn, .int .i64 fu], .agg #[.int .u64 t, .int .i64 hv]] x (DoW x (.slice none 0 0) fs2 false fu2 0)) ∧
  (∀ dv x, Files x x.heap.size dv fs2 → Calls Try.prog 9 #[.agg #[dv, .bool false, .int .i64 fu2]] x fun e w' => e = .returned (.tuple #[.agg #[.int .u64 t, .int .i64 hv], .int .i64 0]) ∧ Below x.heap.size x w')
theorem oth_step (l0 : List Fl) (dn0 : Bool) (fs : List Fl) (dn : Bool) (fu : Int) (ok : OkD l0 dn0 fs dn fu) (t : Nat) (ht : t < 2 ^ 64) (hv : Int) : SaveNo fs dn fu t hv ∨ ∃ fs2 fu2, SaveYes l0 dn0 fs dn fu t hv fs2 fu2 := by
  by_cases hc : Hd.chkH hv = 0
  · have h7 : 0 ≤ hv ∧ hv ≤ 7 := by unfold Hd.chkH at hc; split at hc <;> (try split at hc) <;> omega
    obtain ⟨v, rfl⟩ := Int.eq_ofNat_of_zero_le h7.1
    have hv7 : v ≤ 7 := by omega
    by_cases hw : chkN fs ≠ 0 ∨ dn = true
    · left
      intro dv x hx
      obtain ⟨fs2, dn2, fu2, r2, hr, hcall⟩ := save_wrong dv fs dn fu hw ok.len ok.small ok.lo ok.hi t v ht hv7 x hx
      refine hcall.mono ?_
      rintro e w' ⟨v', rfl, hf, -, hb⟩
      obtain ⟨a, c, rfl⟩ := files_slice hf
      exact ⟨a, _, c, dn2, fu2, r2, hr, rfl, hb⟩
    · have h0 : chkN fs = 0 := Decidable.byContradiction fun h => hw (.inl h)
      have hd : dn = false := by cases dn; rfl; exact absurd (.inr rfl) hw
      subst hd
      obtain ⟨o, ho⟩ : ∃ o, o = seqO nH nT (encB t v) fs false fu 4 := ⟨_, rfl⟩
      have hq := (sq_all 140737488355328 (by omega) fs (encB t v) (encB_size t v ht hv7) fu h0 ok.small ok.lo ok.hi).2.2.2
      have hsb := fun dv x hf => save_any 140737488355328 (by omega) (by omega) dv fs fu h0 ok.small ok.lo ok.hi t v ht hv7 x hf
      rw [← ho] at hq hsb
      by_cases hr : o.r = 0
      · right
        have hdn := hq.up hr
        rw [hdn, hr] at hsb
        refine ⟨o.fs, o.fu, ⟨by have := (chk_fine _ hq.chk).1; omega, hq.small, hq.lo, hq.hi, fun nm h1 h2 => ?_⟩, hsb, fun dv x hf => ?_⟩
        · obtain ⟨e1, e2⟩ := rd_same h0 hq.chk (hq.other nm h2 h1)
          obtain ⟨e3, e4⟩ := ok.same nm h1 h2
          exact ⟨e1.trans e3, e2.trans e4⟩
        · obtain ⟨e1, e2, e3⟩ := load_enc t v ht hv7
          have hH : look [fH (encB t v)] nH = some (fH (encB t v)) := by unfold look; rw [idxHH]; rfl
          obtain ⟨l1, l2, l3⟩ := ld_look (chkH1 (encB t v)) hq.chk ((hq.s4 rfl hr).trans hH.symm)
          have := load_any dv false o.fu o.fs x hf
          unfold LoadIs at this
          rw [l1, l2, l3, e1, e2, e3] at this
          exact this
      · left
        intro dv x hx
        refine (hsb dv x hx).mono ?_
        rintro e w' ⟨v', rfl, hf, -, hb⟩
        obtain ⟨a, c, rfl⟩ := files_slice hf
        exact ⟨a, _, c, o.dn, o.fu, o.r, hr, rfl, hb⟩
  · left
    intro dv x hx
    refine (save_badv dv dn fu fs t hv hc x hx).mono ?_
    rintro e w' ⟨a, n, c, dn', fu', rfl, hb⟩
    exact ⟨a, n, c, dn', fu', 1, by omega, rfl, hb⟩
set_option maxRecDepth 100000 in
theorem neq_hard (t v : Int) (w : World) : (binOp .neq 27 (.agg #[.int .u64 t, .int .i64 v]) (.agg #[.int .u64 t, .int .i64 v])).run Try.prog w = .ok (.bool false) w := by
  have u3 := Try.underlying3
  have u9 := Try.underlying25
  have a3 := Try.isAgg3
  have a9 := Try.isAgg25
  have z3 := Try.sizeOf3
  have z9 := Try.sizeOf25
  have hS : Try.prog.underlying 27 = some (.struct (Try.prog.fieldsOf 27)) := by kernel_rfl
  have hp : Try.prog.stoodInHeld 27 = false := by kernel_rfl
  rw [run_neq_struct, show (10000 : Nat) = 9999 + 1 from rfl, run_equalIn_agg w 9999 27 _ _ hS hp]
  simp only [Program.fieldsOf, Try.underlying27]
  go_simp
set_option maxRecDepth 100000 in
set_option maxHeartbeats 8000000 in
theorem hardOthers (v0 : Value) (dn0 : Bool) (fu0 : Int) (l0 : List Fl) (lv : Value) (l : List Hv) (nm : ByteArray) (w : World) (h0 : Files w w.heap.size v0 l0) (hlen : l0.length * 40 ≤ 140737488355328) (hsm : ∀ f ∈ l0, f.da.size ≤ 140737488355328)
    (hlo : -9223372036854775808 ≤ fu0) (hhi : fu0 ≤ 9223372036854775807) (hl : Hards w w.heap.size lv l) :
    Calls Try.prog 5 #[.agg #[v0, .bool dn0, .int .i64 fu0], lv, .string nm] w fun e w' => e = .returned (.bool true) ∧ Below w.heap.size w w' := by
  have hok0 : OkD l0 dn0 l0 dn0 fu0 := ⟨hlen, hsm, hlo, hhi, fun _ _ _ => ⟨rfl, rfl⟩⟩
  have HSTEP : Hid (∀ fs dn fu, OkD l0 dn0 fs dn fu → ∀ (t : Nat), t < 2 ^ 64 → ∀ hv : Int, SaveNo fs dn fu t hv ∨ ∃ fs2 fu2, SaveYes l0 dn0 fs dn fu t hv fs2 fu2) := fun fs dn fu ok t ht hv => oth_step l0 dn0 fs dn fu ok t ht hv
  have hrd0 := fun x hx => read_own v0 dn0 fu0 l0 nm x hx
  unfold ReadIs at hrd0
  have HRX : Hid (∀ fs dn fu, OkD l0 dn0 fs dn fu → ∃ (s1 : ByteArray) (e1 : Nat), (nm ≠ nH → nm ≠ nT → s1 = rdS l0 dn0 nm ∧ e1 = rdE l0 dn0 nm) ∧ ∀ dv x, Files x x.heap.size dv fs → Calls Try.prog 18 #[.agg #[dv, .bool dn, .int .i64 fu], .string nm] x fun e w' => e = .returned (.tuple #[.string s1, .int .i64 (e1 : Nat)]) ∧ Below x.heap.size x w') := by
    intro fs dn fu ok
    exact ⟨rdS fs dn nm, rdE fs dn nm, fun h1 h2 => ok.same nm h1 h2, fun dv x hx => read_own dv dn fu fs nm x hx⟩
  have HRD0 := Lib.hid hrd0
  have H0 := Lib.hid h0
  have HOK0 := Lib.hid hok0
  have HNQ := Lib.hid (fun t v w => neq_hard t v w)
  have gf := guard_hard
  obtain ⟨a0, c0, rfl⟩ := files_slice h0
  obtain ⟨la, lc, rfl, hll, hlt, hlc⟩ := hl
  have HLT := Lib.hid hlt
  have HLC := Lib.hid hlc
  generalize rdS l0 dn0 nm = s0 at *
  generalize rdE l0 dn0 nm = e0 at *
  clear hrd0 hok0 h0 hlt hlc hlen hsm hlo hhi
  go_enter Try.func5, Try.ntmps5
  go_wp2_with fail
  refine (hlives _).mono ?_
  rintro e w1 ⟨rfl, hb⟩
  have hbw : Below w.heap.size w w1 := ((Below.refl _ w).alloc (Nat.le_refl _) _).trans (hb.mono (by simp))
  have hz1 : w.heap.size + 1 ≤ w1.heap.size := by have := hb.size; simpa using this
  have HS1 : Hid (St w w.heap.size w1 (.slice a0 l0.length c0) dn0 fu0 l0) := ⟨Nat.le_refl _, by omega, hbw, (Dx.made w _ _ _).keep hb (by simp), H0.out.on hbw (by omega)⟩
  clear hb hbw
  obtain ⟨d0, d1, d2, d3, d4, d5⟩ := HS1.out.dx
  generalize hn0 : l0.length = n0 at *
  have HN0 := Lib.hid hn0
  clear hn0
  go_wp2_with fail
  refine (HRD0.out _ HS1.out.files).mono ?_
  rintro e w2 ⟨rfl, hb⟩
  have HS2 := Lib.hid (HS1.out.keep hb)
  clear hb d0 d1 d2 d3 d4 d5
  go_wp2
  go_loopg [27] l.length (fun g i wx => ∃ (k : Nat) (a : Option Addr) (c : Nat) (dn : Bool) (fu : Int) (fs : List Fl), k + g = l.length ∧ i = .int .i64 k ∧ Aside (OkD l0 dn0 fs dn fu) ∧ Aside (St w w.heap.size wx (.slice a fs.length c) dn fu fs))
  case atStart => exact ⟨0, a0, c0, dn0, fu0, l0, by omega, rfl, HOK0.out, by rw [HN0.out]; exact HS2.out⟩
  case round =>
    obtain ⟨k, a, c, dn, fu, fs, hkg, rfl, HOK, HST⟩ := hrel
    have HS := Lib.hid (show St w w.heap.size wr (.slice a fs.length c) dn fu fs from HST.out)
    obtain ⟨s1, e1, hse, hrd⟩ := HRX.out fs dn fu HOK.out
    have HSE := Lib.hid hse
    have HRD := Lib.hid hrd
    clear hse hrd
    cases gk with
    | zero =>
      obtain rfl : k = l.length := by omega
      clear hkg
      obtain ⟨d0, d1, d2, d3, d4, d5⟩ := HS.out.dx
      generalize fs.length = n at *
      go_wp2_with fail
      refine (HRD.out _ _ HS.out.files).mono ?_
      rintro e w9 ⟨rfl, hb⟩
      have HW9 := Lib.hid (HS.out.below.trans (hb.mono HS.out.below.size))
      clear hb d0 d1 d2 d3 d4 d5
      by_cases hq1 : nm.toList = [104, 97, 114, 100]
      · go_wp2
        go_ret
        exact ⟨by simp, HW9.out⟩
      · by_cases hq2 : nm.toList = [104, 97, 114, 100, 46, 116, 109, 112]
        · go_wp2
          go_ret
          exact ⟨by simp, HW9.out⟩
        · obtain ⟨q1, q2⟩ := HSE.out (fun e => hq1 (by rw [e]; exact tH)) (fun e => hq2 (by rw [e]; exact tT))
          subst q1 q2
          go_wp2
          go_ret
          exact ⟨by simp, HW9.out⟩
    | succ g =>
      have hlk : k < l.length := by omega
      have HG := Lib.hid hkg
      have hth := HLT.out l[k] (List.getElem_mem hlk)
      obtain ⟨b, off, rfl, hblt, hcc⟩ := HLC.out (by omega)
      obtain ⟨g0, g1⟩ := hcc k hlk
      have k0 := (HS.out.below.cell (by exact hblt)).trans g0
      have k1 := (HS.out.below.cell (by exact hblt)).trans g1
      clear hkg hcc g0 g1
      generalize l[k] = h at *
      rcases h with ⟨ht, hv⟩
      simp only at k0 k1 hth
      have HSA := Lib.hid (HS.out.keep ((Below.refl _ _).alloc (Nat.le_refl _) (.cells #[.int .u64 ht, .int .i64 hv] 27)))
      by_cases h20 : k = 20
      · subst h20
        obtain ⟨d0, d1, d2, d3, d4, d5⟩ := HSA.out.dx
        generalize fs.length = n at *
        go_wp2_with fail
        refine (HRD.out _ _ HSA.out.files).mono ?_
        rintro e w9 ⟨rfl, hb⟩
        have HW9 := Lib.hid (HSA.out.below.trans (hb.mono HSA.out.below.size))
        clear hb d0 d1 d2 d3 d4 d5
        by_cases hq1 : nm.toList = [104, 97, 114, 100]
        · go_wp2
          go_ret
          exact ⟨by simp, HW9.out⟩
        · by_cases hq2 : nm.toList = [104, 97, 114, 100, 46, 116, 109, 112]
          · go_wp2
            go_ret
            exact ⟨by simp, HW9.out⟩
          · obtain ⟨q1, q2⟩ := HSE.out (fun e => hq1 (by rw [e]; exact tH)) (fun e => hq2 (by rw [e]; exact tT))
            subst q1 q2
            go_wp2
            go_ret
            exact ⟨by simp, HW9.out⟩
      · have hk20 : ¬ (k : Int) = 20 := by omega
        have HTH := Lib.hid hth
        obtain ⟨d0, d1, d2, d3, d4, d5⟩ := HSA.out.dx
        generalize hnn : fs.length = n at *
        have HNN := Lib.hid hnn
        clear hnn hth
        rcases HSTEP.out fs dn fu HOK.out ht HTH.out hv with hno | ⟨fs2, fu2, hok2, hsv, hld⟩
        · have HNO := Lib.hid hno
          unfold SaveNo at HNO
          clear hno
          go_wp2_with fail
          refine (HNO.out _ _ HSA.out.files).mono ?_
          rintro e w3 ⟨a3, n3, c3, dn3, fu3, r3, hr, rfl, hb⟩
          have HS3 := Lib.hid ((HSA.out.keep hb).keep ((Below.refl _ _).alloc (Nat.le_refl _) (.cells #[.slice a3 n3 c3, .bool dn3, .int .i64 fu3] 24)))
          have hr0 : ¬ (r3 : Int) = 0 := by omega
          clear hb hr
          go_wp2
          go_roundg g
          case measure => omega
          case rel => exact ⟨k + 1, a, c, dn, fu, fs, by have := HG.out; omega, by go_num, HOK.out, by rw [HNN.out]; exact HS3.out⟩
        · have HOK2 := Lib.hid hok2
          have HSV := Lib.hid hsv
          have HLD := Lib.hid hld
          clear hok2 hsv hld
          go_wp2_with fail
          refine (HSV.out _ _ HSA.out.files).mono ?_
          rintro e w3 ⟨v3, rfl, hf3, hh3, hb⟩
          obtain ⟨a3, c3, rfl⟩ := files_slice hf3
          have HI3 : Hid (Hi (w.heap.size + 1) (.slice a3 fs2.length c3)) := hh3 _ (by have := HSA.out.hi; omega) (hi_none _ _ _)
          have HS3 := Lib.hid ((HSA.out.keep hb).keep ((Below.refl _ _).alloc (Nat.le_refl _) (.cells #[.slice a3 fs2.length c3, .bool false, .int .i64 fu2] 24)))
          have HE3 := Lib.hid (St.new (w := w3) (dn := false) (fu := fu2) (Below.refl _ _) hf3)
          have hz3 : wr.heap.size + 1 ≤ w3.heap.size := by have := hb.size; simpa using this
          have HH3 : Hid (∀ i, w3.cell? ⟨wr.heap.size, i, none⟩ = #[.int .u64 ht, .int .i64 hv][i]?) := fun i => by rw [hb.cell (by simp)]; simp [go_sem]
          clear hb hf3 hh3 d0 d1 d2 d3 d4 d5 k0 k1
          generalize hn2 : fs2.length = n2 at *
          have HN2 := Lib.hid hn2
          clear hn2
          go_wp2_with fail
          refine (HLD.out _ _ HE3.out.files).mono ?_
          rintro e w4 ⟨rfl, hb⟩
          have HALW := Lib.hid ((Below.refl _ w4).alloc (Nat.le_refl _) (.cells #[.int .u64 ht, .int .i64 hv] 27))
          have HS4 := Lib.hid ((HS3.out.keep hb).keep HALW.out)
          have HE4 := Lib.hid ((HE3.out.keep hb).keep HALW.out)
          have m0 : ∀ i, (w4.alloc (.cells #[.int .u64 ht, .int .i64 hv] 27)).cell? ⟨wr.heap.size, i, none⟩ = #[.int .u64 ht, .int .i64 hv][i]? := fun i => (HE4.out.below.cell (by show wr.heap.size < _; omega)).trans (HH3.out i)
          obtain ⟨x0, x1, x2, x3, x4, x5⟩ := HS4.out.dx
          obtain ⟨y0, y1, y2, y3, y4, y5⟩ := HE4.out.dx
          have hnq := HNQ.out ht hv
          have HNEW : Hid (St w w.heap.size ((((w4.alloc (.cells #[.int .u64 ht, .int .i64 hv] 27)).setCell ⟨w.heap.size, 0, none⟩ (.slice a3 n2 c3)).setCell ⟨w.heap.size, 1, none⟩ (.bool false)).setCell ⟨w.heap.size, 2, none⟩ (.int .i64 fu2)) (.slice a3 n2 c3) false fu2 fs2) :=
            ⟨Nat.le_refl _, by have := HS4.out.hi; simpa using this, bset (bset (bset HS4.out.below (Nat.le_refl _) _) (Nat.le_refl _) _) (Nat.le_refl _) _, HS4.out.dx.st, HE4.out.files.put3 HI3.out (by omega)⟩
          clear hb
          go_wp2
          go_roundg g
          case measure => omega
          case rel => exact ⟨k + 1, a3, c3, false, fu2, fs2, by have := HG.out; omega, by go_num, HOK2.out, by rw [HN2.out]; exact HNEW.out⟩
end Dk
end Go.Proofs.Ytpncflgcfndhmaa
