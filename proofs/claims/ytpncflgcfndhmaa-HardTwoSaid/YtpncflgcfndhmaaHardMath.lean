/-
  SAVING at any right disk, with any fuse: what stands there then, and behind a crash.
-/
import Derived.Test.YtpncflgcfndhmaaHardC
import Derived.Test.YtpncflgcfndhmaaDiskTail
namespace Go.Proofs.Ytpncflgcfndhmaa
open Go.RowKit Go.Lib Go.Sort
namespace Dk
/-- What stands behind the first k changes of a save of da at the right disk fs. -/
structure Sq (S : Nat) (fs : List Fl) (da : ByteArray) (k : Nat) (o : Out) : Prop where
  chk : chkN o.fs = 0
  small : ∀ f ∈ o.fs, f.da.size ≤ S
  lo : -9223372036854775808 ≤ o.fu
  hi : o.fu ≤ 9223372036854775807
  up : o.r = 0 → o.dn = false
  other : ∀ nm, nm ≠ nT → nm ≠ nH → look o.fs nm = look fs nm
  keep : k < 4 ∨ o.r ≠ 0 → look o.fs nH = look fs nH
  s1 : k = 1 → o.r = 0 → look o.fs nT = none ∧ o.fs.length ≤ fs.length
  s2 : k = 2 → o.r = 0 → look o.fs nT = some ⟨nT, da, 0⟩
  s3 : k = 3 → o.r = 0 → look o.fs nT = some ⟨nT, da, (da.size : Nat)⟩
  s4 : k = 4 → o.r = 0 → look o.fs nH = some ⟨nH, da, (da.size : Nat)⟩
  why : o.r = 0 ∨ o.r = 8 ∨ (o.r = 11 ∧ 4096 ≤ fs.length)
theorem nHT : nH ≠ nT := fun e => by have := eHT; rw [e] at this; simp at this
theorem fu_lo {fu : Int} (h : -9223372036854775808 ≤ fu) : -9223372036854775808 ≤ (if 0 < fu then fu - 1 else fu) := by split <;> omega
theorem fu_hi {fu : Int} (h : fu ≤ 9223372036854775807) : (if 0 < fu then fu - 1 else fu) ≤ 9223372036854775807 := by split <;> omega
theorem outO_up {fs ch : List Fl} {fu : Int} {r : Nat} {ad : Bool} (h : chkN fs = 0) : outO fs false fu r ch ad = if r = 0 then (if fu = 0 then ⟨if ad then ch else fs, true, 0, 8⟩ else ⟨ch, false, if 0 < fu then fu - 1 else fu, 0⟩) else ⟨fs, false, fu, r⟩ := by
  unfold outO; rw [if_pos h, if_neg (by simp)]
theorem look_lt {fs : List Fl} {nm : ByteArray} {f : Fl} (h : look fs nm = some f) : idxN fs nm < fs.length := (List.getElem?_eq_some_iff.1 h).1
theorem look_ge {fs : List Fl} {nm : ByteArray} (h : look fs nm = none) : ¬ idxN fs nm < fs.length := fun h1 => by unfold look at h; rw [List.getElem?_eq_getElem h1] at h; cases h
theorem Sq.stop {S : Nat} {fs : List Fl} {da : ByteArray} {k : Nat} {o : Out} (h : Sq S fs da k o) (hr : o.r ≠ 0) (j : Nat) : Sq S fs da j o where
  chk := h.chk
  small := h.small
  lo := h.lo
  hi := h.hi
  up := h.up
  other := h.other
  keep := fun _ => h.keep (.inr hr)
  s1 := fun _ e => absurd e hr
  s2 := fun _ e => absurd e hr
  s3 := fun _ e => absurd e hr
  s4 := fun _ e => absurd e hr
  why := h.why
theorem sq1 (S : Nat) (fs : List Fl) (da : ByteArray) (fu : Int) (h0 : chkN fs = 0) (hs : ∀ f ∈ fs, f.da.size ≤ S) (hlo : -9223372036854775808 ≤ fu) (hhi : fu ≤ 9223372036854775807) : Sq S fs da 1 (rw1 nT fs false fu) := by
  obtain ⟨h4, hok⟩ := chk_fine fs h0
  unfold rw1
  cases hl : look fs nT with
  | none =>
    rw [if_pos (rd_none h0 hl).2]
    exact ⟨h0, hs, hlo, hhi, fun _ => rfl, fun _ _ _ => rfl, fun _ => rfl, fun _ _ => ⟨hl, Nat.le_refl _⟩, fun e => by omega, fun e => by omega, fun e => by omega, .inl rfl⟩
  | some f =>
    have hn := look_lt hl
    rw [if_neg (by rw [(rd_some h0 hl).2]; omega)]
    unfold drpO
    have hr : rsN fs nT = 0 := if_pos hn
    rw [outO_up h0, hr, if_pos rfl]
    have hok2 := del_ok hok (idxN fs nT)
    have hel : (fs.eraseIdx (idxN fs nT)).length = fs.length - 1 := List.length_eraseIdx_of_lt hn
    split
    · exact ⟨h0, hs, by show (-9223372036854775808 : Int) ≤ 0; omega, by show (0 : Int) ≤ 9223372036854775807; omega, (fun e => by cases e), fun _ _ _ => rfl, fun _ => rfl, (fun _ e => by cases e), fun e => by omega, fun e => by omega, fun e => by omega, .inr (.inl rfl)⟩
    · exact ⟨chk_of (by show (fs.eraseIdx _).length ≤ _; omega) hok2, fun x hx => hs x (List.mem_of_mem_eraseIdx hx), fu_lo hlo, fu_hi hhi, fun _ => rfl, fun nm hne _ => look_del hok nT nm hn hne, fun _ => look_del hok nT nH hn nHT, fun _ _ => ⟨look_del_self hok nT hn, by show (fs.eraseIdx _).length ≤ _; omega⟩, fun e => by omega, fun e => by omega, fun e => by omega, .inl rfl⟩
theorem sq2 (S : Nat) (hS : 24 ≤ S) (fs : List Fl) (da : ByteArray) (hda : da.size ≤ 24) (o : Out) (h : Sq S fs da 1 o) (hr : o.r = 0) : Sq S fs da 2 (addO o.fs o.dn o.fu nT da) := by
  obtain ⟨hl, hlen⟩ := h.s1 rfl hr
  obtain ⟨h4, hok⟩ := chk_fine _ h.chk
  have hn := look_ge hl
  have hF : addF o.fs nT da = ⟨nT, da, 0⟩ := by unfold addF; rw [hl]
  rw [h.up hr]
  unfold addO
  rw [outO_up h.chk, hF]
  have hh : hasN o.fs nT = false := by unfold hasN; simpa using hn
  have hra : raN o.fs.length nT (hasN o.fs nT) = if 4096 ≤ o.fs.length then 11 else 0 := by unfold raN; rw [okT', if_pos rfl, hh, if_neg (by simp)]
  rw [hra]
  have hpl : (putF o.fs ⟨nT, da, 0⟩).length = o.fs.length + 1 := by rw [put_len _ hok]; exact if_neg hn
  by_cases hful : 4096 ≤ o.fs.length
  · rw [if_pos hful, if_neg (by omega)]
    exact ⟨h.chk, h.small, h.lo, h.hi, (fun e => by cases e), h.other, fun _ => h.keep (.inl (by omega)), fun e => by omega, (fun _ e => by cases e), fun e => by omega, fun e => by omega, .inr (.inr ⟨rfl, by omega⟩)⟩
  · rw [if_neg hful, if_pos rfl]
    have hp : chkN (putF o.fs ⟨nT, da, 0⟩) = 0 := chk_of (by omega) (put_ok hok _ ⟨by show (0 : Int) ≤ 0; omega, by show (0 : Int) ≤ (da.size : Nat); omega⟩)
    have hps : ∀ f ∈ putF o.fs ⟨nT, da, 0⟩, f.da.size ≤ S := fun f hf => by
      rcases (put_mem hok _ f).1 hf with rfl | ⟨hf, -⟩
      · show da.size ≤ S; omega
      · exact h.small f hf
    have hoth : ∀ nm, nm ≠ nT → look (putF o.fs ⟨nT, da, 0⟩) nm = look o.fs nm := fun nm hne => look_put_ne hok ⟨nT, da, 0⟩ nm hne
    split
    · exact ⟨hp, hps, by show (-9223372036854775808 : Int) ≤ 0; omega, by show (0 : Int) ≤ 9223372036854775807; omega, (fun e => by cases e), fun nm h1 h2 => (hoth nm h1).trans (h.other nm h1 h2), fun _ => (hoth nH nHT).trans (h.keep (.inl (by omega))), fun e => by omega, (fun _ e => by cases e), fun e => by omega, fun e => by omega, .inr (.inl rfl)⟩
    · exact ⟨hp, hps, fu_lo h.lo, fu_hi h.hi, fun _ => rfl, fun nm h1 h2 => (hoth nm h1).trans (h.other nm h1 h2), fun _ => (hoth nH nHT).trans (h.keep (.inl (by omega))), fun e => by omega, fun _ _ => look_put hok ⟨nT, da, 0⟩, fun e => by omega, fun e => by omega, .inl rfl⟩
theorem sq3 (S : Nat) (hS : 24 ≤ S) (fs : List Fl) (da : ByteArray) (hda : da.size ≤ 24) (o : Out) (h : Sq S fs da 2 o) (hr : o.r = 0) : Sq S fs da 3 (synO o.fs o.dn o.fu nT) := by
  have hl := h.s2 rfl hr
  obtain ⟨h4, hok⟩ := chk_fine _ h.chk
  have hn := look_lt hl
  have hF : synF o.fs nT = ⟨nT, da, (da.size : Nat)⟩ := by unfold synF; rw [hl]
  rw [h.up hr]
  unfold synO
  have hrs : rsN o.fs nT = 0 := if_pos hn
  rw [outO_up h.chk, hF, hrs, if_pos rfl]
  have hpl : (putF o.fs ⟨nT, da, (da.size : Nat)⟩).length = o.fs.length := by rw [put_len _ hok]; exact if_pos hn
  have hp : chkN (putF o.fs ⟨nT, da, (da.size : Nat)⟩) = 0 := chk_of (by omega) (put_ok hok _ ⟨by show (0 : Int) ≤ (da.size : Nat); omega, Int.le_refl _⟩)
  have hps : ∀ f ∈ putF o.fs ⟨nT, da, (da.size : Nat)⟩, f.da.size ≤ S := fun f hf => by
    rcases (put_mem hok _ f).1 hf with rfl | ⟨hf, -⟩
    · show da.size ≤ S; omega
    · exact h.small f hf
  have hoth : ∀ nm, nm ≠ nT → look (putF o.fs ⟨nT, da, (da.size : Nat)⟩) nm = look o.fs nm := fun nm hne => look_put_ne hok ⟨nT, da, (da.size : Nat)⟩ nm hne
  split
  · exact ⟨h.chk, h.small, by show (-9223372036854775808 : Int) ≤ 0; omega, by show (0 : Int) ≤ 9223372036854775807; omega, (fun e => by cases e), h.other, fun _ => h.keep (.inl (by omega)), fun e => by omega, fun e => by omega, (fun _ e => by cases e), fun e => by omega, .inr (.inl rfl)⟩
  · exact ⟨hp, hps, fu_lo h.lo, fu_hi h.hi, fun _ => rfl, fun nm h1 h2 => (hoth nm h1).trans (h.other nm h1 h2), fun _ => (hoth nH nHT).trans (h.keep (.inl (by omega))), fun e => by omega, fun e => by omega, fun _ _ => look_put hok ⟨nT, da, (da.size : Nat)⟩, fun e => by omega, .inl rfl⟩
theorem sq4 (S : Nat) (hS : 24 ≤ S) (fs : List Fl) (da : ByteArray) (hda : da.size ≤ 24) (o : Out) (h : Sq S fs da 3 o) (hr : o.r = 0) : Sq S fs da 4 (swpO o.fs o.dn o.fu nT nH) := by
  have hl := h.s3 rfl hr
  obtain ⟨h4, hok⟩ := chk_fine _ h.chk
  have hn := look_lt hl
  have hF : swpF o.fs nT nH = ⟨nH, da, (da.size : Nat)⟩ := by unfold swpF; rw [hl]
  rw [h.up hr]
  unfold swpO
  have hrw : rwN o.fs nT nH = 0 := by
    unfold rwN
    rw [show o.fs[idxN o.fs nT]? = some ⟨nT, da, (da.size : Nat)⟩ from hl]
    show (if ((da.size : Nat) : Int) < (da.size : Nat) then 9 else if nmOk nH = true then 0 else 5) = 0
    rw [if_neg (by omega), if_pos okH]
  rw [outO_up h.chk, hF, hrw, if_pos rfl]
  have hok2 := del_ok hok (idxN o.fs nT)
  have hel : (o.fs.eraseIdx (idxN o.fs nT)).length = o.fs.length - 1 := List.length_eraseIdx_of_lt hn
  have hpl : (putF (o.fs.eraseIdx (idxN o.fs nT)) ⟨nH, da, (da.size : Nat)⟩).length ≤ o.fs.length := by rw [put_len _ hok2]; split <;> omega
  have hp : chkN (putF (o.fs.eraseIdx (idxN o.fs nT)) ⟨nH, da, (da.size : Nat)⟩) = 0 := chk_of (by omega) (put_ok hok2 _ ⟨by show (0 : Int) ≤ (da.size : Nat); omega, Int.le_refl _⟩)
  have hps : ∀ f ∈ putF (o.fs.eraseIdx (idxN o.fs nT)) ⟨nH, da, (da.size : Nat)⟩, f.da.size ≤ S := fun f hf => by
    rcases (put_mem hok2 _ f).1 hf with rfl | ⟨hf, -⟩
    · show da.size ≤ S; omega
    · exact h.small f (List.mem_of_mem_eraseIdx hf)
  have hoth : ∀ nm, nm ≠ nT → nm ≠ nH → look (putF (o.fs.eraseIdx (idxN o.fs nT)) ⟨nH, da, (da.size : Nat)⟩) nm = look o.fs nm := fun nm h1 h2 => (look_put_ne hok2 ⟨nH, da, (da.size : Nat)⟩ nm h2).trans (look_del hok nT nm hn h1)
  split
  · exact ⟨h.chk, h.small, by show (-9223372036854775808 : Int) ≤ 0; omega, by show (0 : Int) ≤ 9223372036854775807; omega, (fun e => by cases e), h.other, fun _ => h.keep (.inl (by omega)), fun e => by omega, fun e => by omega, fun e => by omega, (fun _ e => by cases e), .inr (.inl rfl)⟩
  · exact ⟨hp, hps, fu_lo h.lo, fu_hi h.hi, fun _ => rfl, fun nm h1 h2 => (hoth nm h1 h2).trans (h.other nm h1 h2), (fun e => by rcases e with e | e; omega; exact absurd rfl e), fun e => by omega, fun e => by omega, fun e => by omega, fun _ _ => look_put hok2 ⟨nH, da, (da.size : Nat)⟩, .inl rfl⟩
theorem sq_all (S : Nat) (hS : 24 ≤ S) (fs : List Fl) (da : ByteArray) (hda : da.size ≤ 24) (fu : Int) (h0 : chkN fs = 0) (hs : ∀ f ∈ fs, f.da.size ≤ S) (hlo : -9223372036854775808 ≤ fu) (hhi : fu ≤ 9223372036854775807) :
    Sq S fs da 1 (seqO nH nT da fs false fu 1) ∧ Sq S fs da 2 (seqO nH nT da fs false fu 2) ∧ Sq S fs da 3 (seqO nH nT da fs false fu 3) ∧ Sq S fs da 4 (seqO nH nT da fs false fu 4) := by
  have h1 : Sq S fs da 1 (seqO nH nT da fs false fu 1) := by
    rw [seq_succ]
    show Sq S fs da 1 (thenO ⟨fs, false, fu, 0⟩ (stp nH nT da 0))
    rw [thenO_ok rfl]
    exact sq1 S fs da fu h0 hs hlo hhi
  have h2 : Sq S fs da 2 (seqO nH nT da fs false fu 2) := by
    rw [seq_succ]
    by_cases hr : (seqO nH nT da fs false fu 1).r = 0
    · rw [thenO_ok hr]; exact sq2 S hS fs da hda _ h1 hr
    · rw [thenO_bad hr]; exact h1.stop hr 2
  have h3 : Sq S fs da 3 (seqO nH nT da fs false fu 3) := by
    rw [seq_succ]
    by_cases hr : (seqO nH nT da fs false fu 2).r = 0
    · rw [thenO_ok hr]; exact sq3 S hS fs da hda _ h2 hr
    · rw [thenO_bad hr]; exact h2.stop hr 3
  refine ⟨h1, h2, h3, ?_⟩
  rw [seq_succ]
  by_cases hr : (seqO nH nT da fs false fu 3).r = 0
  · rw [thenO_ok hr]; exact sq4 S hS fs da hda _ h3 hr
  · rw [thenO_bad hr]; exact h3.stop hr 4
theorem chk_bd {fs : List Fl} (h : chkN fs = 0) : Bd fs := ok_bd (chk_fine fs h).2
theorem small_fine {S : Nat} (hS : S ≤ 4611686018427387904) {fs : List Fl} (h : chkN fs = 0) (hs : ∀ f ∈ fs, f.da.size ≤ S) : Fine fs := fun f hf => by
  have h1 := hs f hf
  have h2 := chk_bd h f hf
  exact ⟨by unfold maxLen; omega, by omega, by omega⟩
theorem Sq.inv {S : Nat} (hS : S ≤ 4611686018427387904) {fs : List Fl} {da : ByteArray} (hda : da.size ≤ 24) {k : Nat} {o : Out} (h : Sq S fs da k o) : Inv da.size o where
  lo := h.lo
  hi := h.hi
  fine := small_fine hS h.chk h.small
  len := by have := (chk_fine _ h.chk).1; omega
  room := fun f hf => by have := h.small f hf; omega
/-- Save at a right disk. -/
theorem save_any (S : Nat) (hS : 24 ≤ S) (hS2 : S ≤ 4611686018427387904) (dv : Value) (fs : List Fl) (fu : Int) (h0 : chkN fs = 0) (hs : ∀ f ∈ fs, f.da.size ≤ S) (hlo : -9223372036854775808 ≤ fu) (hhi : fu ≤ 9223372036854775807) (t v : Nat) (ht : t < 2 ^ 64) (hv : v ≤ 7) (w : World) (hf : Files w w.heap.size dv fs) :
    Calls Try.prog 11 #[.agg #[dv, .bool false, .int .i64 fu], .agg #[.int .u64 (t : Nat), .int .i64 (v : Nat)]] w (DoW w (.slice none 0 0) (seqO nH nT (encB t v) fs false fu 4).fs (seqO nH nT (encB t v) fs false fu 4).dn (seqO nH nT (encB t v) fs false fu 4).fu (seqO nH nT (encB t v) fs false fu 4).r) := by
  have hda := encB_size t v ht hv
  obtain ⟨h1, h2, h3, h4⟩ := sq_all S hS fs (encB t v) hda fu h0 hs hlo hhi
  have hi0 : Inv (encB t v).size ⟨fs, false, fu, 0⟩ := ⟨hlo, hhi, small_fine hS2 h0 hs, by have := (chk_fine _ h0).1; show fs.length ≤ _; omega, fun f hf => by have := hs f hf; omega⟩
  have hi : ∀ k, k ≤ 4 → Inv (encB t v).size (seqO nH nT (encB t v) fs false fu k) := by
    intro k hk
    have h5 : k = 0 ∨ k = 1 ∨ k = 2 ∨ k = 3 ∨ k = 4 := by omega
    rcases h5 with rfl | rfl | rfl | rfl | rfl
    · exact hi0
    · exact h1.inv hS2 hda
    · exact h2.inv hS2 hda
    · exact h3.inv hS2 hda
    · exact h4.inv hS2 hda
  have hA := all4 nH nT (encB t v) fs false fu (by omega) hi
  refine save_ok dv false fu fs t v (seqO nH nT (encB t v) fs false fu 4) ht hv (fun x g pF pT pC hx hr => ?_) w hf
  exact do_rewrite nH nT (encB t v) (seqO nH nT (encB t v) fs false fu) hA rfl (fun k hk hr => by
    obtain ⟨j, e⟩ : ∃ j, 4 = k + j := ⟨4 - k, by omega⟩
    rw [show seqO nH nT (encB t v) fs false fu 4 = seqO nH nT (encB t v) fs false fu (k + j) by rw [← e]]
    exact seq_stop nH nT (encB t v) fs false fu k hr j) (by show fs.length ≤ 4096; exact (chk_fine _ h0).1) hi0.fine dv g pF pT pC x hx hr
theorem crash_none {fs : List Fl} {ks : List Int} {nm : ByteArray} (h0 : chkN fs = 0) (hl : look fs nm = none) : chkN (crS fs ks fs.length) = 0 ∧ look (crS fs ks fs.length) nm = none := by
  have h9 : chkN (crS fs ks fs.length) = 0 := chk_same fs _ h0 (crS_len _ _ _) (fun i i1 i2 => by obtain ⟨D, e, -⟩ := crS_each fs ks h0 i i2 i1; rw [e]) (fun i i1 => by obtain ⟨D, e, -⟩ := crS_each fs ks h0 i (by rw [crS_len] at i1; exact i1) i1; rw [e]; simp)
  refine ⟨h9, look_none.2 fun f hf => ?_⟩
  obtain ⟨i, hi, rfl⟩ := List.getElem_of_mem hf
  have hi2 : i < fs.length := by rw [crS_len] at hi; exact hi
  obtain ⟨D, e, -⟩ := crS_each fs ks h0 i hi2 hi
  rw [e]
  exact look_none.1 hl fs[i] (List.getElem_mem hi2)
theorem crash_small {S : Nat} {fs : List Fl} {ks : List Int} (h0 : chkN fs = 0) (hs : ∀ f ∈ fs, f.da.size ≤ S) : ∀ f ∈ crS fs ks fs.length, f.da.size ≤ S ∧ f.sy = (f.da.size : Nat) := by
  intro f hf
  obtain ⟨i, hi, rfl⟩ := List.getElem_of_mem hf
  have hi2 : i < fs.length := by rw [crS_len] at hi; exact hi
  obtain ⟨D, e, h1, h2, h3⟩ := crS_each fs ks h0 i hi2 hi
  rw [e]
  have := hs _ (List.getElem_mem hi2)
  exact ⟨by show D.size ≤ S; omega, rfl⟩
theorem crash_chk {fs : List Fl} {ks : List Int} (h0 : chkN fs = 0) : chkN (crS fs ks fs.length) = 0 := by
  cases hl : look fs nT with
  | none => exact (crash_none h0 hl).1
  | some f => exact chk_same fs _ h0 (crS_len _ _ _) (fun i i1 i2 => by obtain ⟨D, e, -⟩ := crS_each fs ks h0 i i2 i1; rw [e]) (fun i i1 => by obtain ⟨D, e, -⟩ := crS_each fs ks h0 i (by rw [crS_len] at i1; exact i1) i1; rw [e]; simp)
theorem ld_look {fs gs : List Fl} (h0 : chkN fs = 0) (h1 : chkN gs = 0) (hl : look gs nH = look fs nH) : ldT gs false = ldT fs false ∧ ldV gs false = ldV fs false ∧ ldE gs false = ldE fs false := by
  have hh : nHd = nH := rfl
  have key : rdS gs false nHd = rdS fs false nHd ∧ rdE gs false nHd = rdE fs false nHd := by
    rw [hh]
    cases hf : look fs nH with
    | none =>
      rw [hf] at hl
      obtain ⟨a1, a2⟩ := rd_none h0 hf
      obtain ⟨b1, b2⟩ := rd_none h1 hl
      exact ⟨b1.trans a1.symm, b2.trans a2.symm⟩
    | some f =>
      rw [hf] at hl
      obtain ⟨a1, a2⟩ := rd_some h0 hf
      obtain ⟨b1, b2⟩ := rd_some h1 hl
      exact ⟨b1.trans a1.symm, b2.trans a2.symm⟩
  unfold ldT ldV ldE
  rw [key.1, key.2]
  exact ⟨rfl, rfl, rfl⟩
/-- What is loaded behind a save, whatever the power took, and a crash. -/
theorem save_crash (S : Nat) (hS : 24 ≤ S) (fs : List Fl) (fu : Int) (ks : List Int) (h0 : chkN fs = 0) (hs : ∀ f ∈ fs, f.da.size ≤ S ∧ f.sy = (f.da.size : Nat)) (hlo : -9223372036854775808 ≤ fu) (hhi : fu ≤ 9223372036854775807) (t v : Nat) (ht : t < 2 ^ 64) (hv : v ≤ 7) (o : Out) (ho : o = seqO nH nT (encB t v) fs false fu 4) :
    chkN o.fs = 0 ∧ chkN (crS o.fs ks o.fs.length) = 0 ∧ (o.r = 0 ∨ o.r = 8 ∨ (o.r = 11 ∧ 4096 ≤ fs.length)) ∧
    (o.r = 0 → ldT (crS o.fs ks o.fs.length) false = t ∧ ldV (crS o.fs ks o.fs.length) false = v ∧ ldE (crS o.fs ks o.fs.length) false = 0) ∧
    (¬ o.r = 0 → ldT (crS o.fs ks o.fs.length) false = ldT fs false ∧ ldV (crS o.fs ks o.fs.length) false = ldV fs false ∧ ldE (crS o.fs ks o.fs.length) false = ldE fs false) := by
  have hda := encB_size t v ht hv
  have hq := (sq_all S hS fs (encB t v) hda fu h0 (fun f hf => (hs f hf).1) hlo hhi).2.2.2
  rw [← ho] at hq
  have hc : chkN (crS o.fs ks o.fs.length) = 0 := crash_chk hq.chk
  refine ⟨hq.chk, hc, hq.why, fun hr => ?_, fun hr => ?_⟩
  · have hl := hq.s4 rfl hr
    have hl2 := (crash_look (ks := ks) hq.chk hl rfl).2
    obtain ⟨e1, e2, e3⟩ := load_enc t v ht hv
    have hH : look [fH (encB t v)] nH = some (fH (encB t v)) := by unfold look; rw [idxHH]; rfl
    obtain ⟨l1, l2, l3⟩ := ld_look (chkH1 (encB t v)) hc (hl2.trans hH.symm)
    exact ⟨l1.trans e1, l2.trans e2, l3.trans e3⟩
  · refine ld_look h0 hc ?_
    have hk := hq.keep (.inr hr)
    cases hl : look fs nH with
    | none => rw [hl] at hk; exact (crash_none hq.chk hk).2
    | some f =>
      rw [hl] at hk
      exact (crash_look (ks := ks) hq.chk hk ((hs f (look_mem hl).1).2)).2
end Dk
end Go.Proofs.Ytpncflgcfndhmaa
