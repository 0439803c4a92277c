/-
  Merged: PackTakeFrRef, HardMath, HardTwo, HardEx, HardRefA, HardRefL, HardPut, HardRefS, HardRefV, HardDoes.
-/
import Derived.Test.YtpncflgcfndhmaaPackTakeFr
import Derived.Test.YtpncflgcfndhmaaHardC
import Derived.Test.YtpncflgcfndhmaaDiskTail
import Derived.Laws.StructEq
import Derived.Test.YtpncflgcfndhmaaDiskRfM
import Derived.Deep.RegionHeld3
/- CONTRACTS: the document's own TakeFrame. -/
namespace Go.Proofs.Ytpncflgcfndhmaa
open Go.RowKit
namespace PackTakeFrRef
open PM PackBytes PackTakeNum PackTakeRef PackRefNum PackText PackChk PackFrame PackTakeFr

theorem val_next0 (s : ByteArray) (j : Nat) (h : j < s.size) : val (s.data.toList.take (j + 1)) = 256 * val (s.data.toList.take j) + s[j].toNat := by
  rw [take_snoc s j h, val_snoc]; omega
theorem okB_ref (s : ByteArray) (n : Nat) (hn : n = headB s) : ((chkB (s.extract 0 4 ++ s.extract 6 (n + 6))).toList == (s.extract 4 6).toList) = okB s := by
  subst hn
  unfold okB
  rw [Bool.beq_comm, Nat.add_comm]
theorem tookF_ref (s : ByteArray) (h : tfW s.data.toList = 0) (n : Nat) (hn : n = headB s) :
    TookF s.data.toList (.returned (.tuple #[.string (s.extract 6 (n + 6)), .string (s.extract (n + 6) s.size), .int .i64 0])) := by
  have e := tookF_good s h n hn
  rw [Nat.add_comm] at e
  exact e

set_option maxRecDepth 100000 in
set_option maxHeartbeats 2000000 in
theorem takeFrame_ref (s : ByteArray) (w : World) (hs : s.size ≤ maxLen) :
    Calls Try.prog 21 #[.string s] w fun e w' => TookF s.data.toList e ∧ Below w.heap.size w w' := by
  unfold maxLen at hs
  have HD := Lib.hid (tfW_of s)
  by_cases h4 : s.size < 4
  · have HW : Hid (tfW s.data.toList = 3) := by have e := HD.out; rw [if_pos h4] at e; exact e
    have t : (s.size : Int) < 4 := by omega
    go_enter Try.func21, Try.ntmps21
    go_wp2
    go_ret3
    exact ⟨tookF_bad _ 3 HW.out (by omega), Below.refl _ _⟩
  · have t : (4 : Int) ≤ (s.size : Int) := by omega
    go_enter Try.func21, Try.ntmps21
    go_wp2
    go_loopg [5, 6] 4 (fun g n i wx => wx = w ∧ ∃ (j v : Nat), j + g = 4 ∧ i = .int .i64 j ∧ n = .int .u64 (v : Nat) ∧ v < 256 ^ j ∧ Aside (v = val (s.data.toList.take j)))
    case atStart => exact ⟨rfl, 0, 0, by omega, rfl, rfl, by omega, rfl⟩
    case round =>
      obtain ⟨rfl, j, v, hjg, rfl, rfl, hv, HV⟩ := hrel
      cases gk with
      | succ g =>
        have u1 : (j : Int) < 4 := by omega
        have HG := Lib.hid hjg
        have hjs : j < s.size := by omega
        have hb2 := s[j].toNat_lt
        have hv7 : v < 16777216 := by
          have : 256 ^ j ≤ 256 ^ 3 := Nat.pow_le_pow_right (by omega) (by omega)
          omega
        have HV2 := Lib.hid hv
        clear hjg hv
        go_wp2
        go_roundg g
        case measure => omega
        case rel =>
          refine ⟨rfl, j + 1, 256 * v + s[j].toNat, by have := HG.out; omega, by go_num, by go_num, ?_, ?_⟩
          · have := HV2.out
            rw [Nat.pow_succ]; omega
          · show _ = _
            rw [val_next0 s j hjs, ← HV.out]
      | zero =>
        obtain rfl : j = 4 := by omega
        have HE : Hid (v = headB s) := HV.out
        have hvl : v < 4294967296 := by omega
        clear hjg hv HV
        by_cases hL : 65536 < v
        · have HW : Hid (tfW s.data.toList = 2) := by have e := HD.out; rw [if_neg h4, ← HE.out, if_pos hL] at e; exact e
          go_wp2
          go_ret3
          exact ⟨tookF_bad _ 2 HW.out (by omega), Below.refl _ _⟩
        · by_cases hM : s.size < 6 + v
          · have HW : Hid (tfW s.data.toList = 3) := by have e := HD.out; rw [if_neg h4, ← HE.out, if_neg hL, if_pos hM] at e; exact e
            go_wp2
            go_ret3
            exact ⟨tookF_bad _ 3 HW.out (by omega), Below.refl _ _⟩
          · have HQ : Hid (tfW s.data.toList = if okB s = true then 0 else 4) := by
              have e := HD.out; rw [if_neg h4, ← HE.out, if_neg hL, if_neg hM] at e; exact e
            have HO := Lib.hid (okB_ref s v HE.out)
            have HK := Lib.hid (fun h => tookF_ref s h v HE.out)
            have HZ : Hid ((s.extract 0 4 ++ s.extract 6 (v + 6)).size ≤ maxLen) := by
              show _ ≤ _
              rw [ByteArray.size_append, extract_bs, extract_bs, bs_size, bs_size, List.length_take, List.length_take]; unfold maxLen; omega
            go_upto_region 13 with fail
            go_cut [41] (fun s41 wx => s41 = .bool (!(okB s)) ∧ Below wr.heap.size wr wx)
            case first =>
              go_region_with ((go_at_call 39; refine (check_ref _ _ HZ.out).mono ?_; rintro e w' ⟨rfl, hb⟩))
              all_goals (go_wp2_with fail; go_meet; exact ⟨by rw [← HO.out], (Below.refl _ _).drew.trans hb⟩)
            case rest =>
              obtain ⟨rfl, hb⟩ := hcut
              cases hq : okB s
              · have HW : Hid (tfW s.data.toList = 4) := by have e := HQ.out; rw [hq] at e; exact e
                go_wp2
                go_ret3
                exact ⟨tookF_bad _ 4 HW.out (by omega), hb⟩
              · have HW : Hid (tfW s.data.toList = 0) := by have e := HQ.out; rw [hq] at e; exact e
                go_wp2
                go_quiet (fail)
                go_wp2
                go_ret3
                exact ⟨HK.out HW.out, bdN hb _⟩
end PackTakeFrRef
end Go.Proofs.Ytpncflgcfndhmaa

/- SAVING at any right disk, with any fuse: what stands there then, and behind a crash. -/
namespace Go.Proofs.Ytpncflgcfndhmaa
open Go.RowKit Go.Lib Go.Sort
namespace Dk
/-- What stands behind the first k changes of a save of da at the right disk fs. -/
structure Sq (S : Nat) (fs : List Fl) (da : ByteArray) (k : Nat) (o : Out) : Prop where
  chk : chkN o.fs = 0
  small : ∀ f ∈ o.fs, f.da.size ≤ S
  lo : -9223372036854775808 ≤ o.fu
  hi : o.fu ≤ 9223372036854775807
  up : o.r = 0 → o.dn = false
  other : ∀ nm, nm ≠ nT → nm ≠ nH → look o.fs nm = look fs nm
  keep : k < 4 ∨ o.r ≠ 0 → look o.fs nH = look fs nH
  s1 : k = 1 → o.r = 0 → look o.fs nT = none ∧ o.fs.length ≤ fs.length
  s2 : k = 2 → o.r = 0 → look o.fs nT = some ⟨nT, da, 0⟩
  s3 : k = 3 → o.r = 0 → look o.fs nT = some ⟨nT, da, (da.size : Nat)⟩
  s4 : k = 4 → o.r = 0 → look o.fs nH = some ⟨nH, da, (da.size : Nat)⟩
  why : o.r = 0 ∨ o.r = 8 ∨ (o.r = 11 ∧ 4096 ≤ fs.length)
theorem nHT : nH ≠ nT := fun e => by have := eHT; rw [e] at this; simp at this
theorem fu_lo {fu : Int} (h : -9223372036854775808 ≤ fu) : -9223372036854775808 ≤ (if 0 < fu then fu - 1 else fu) := by split <;> omega
theorem fu_hi {fu : Int} (h : fu ≤ 9223372036854775807) : (if 0 < fu then fu - 1 else fu) ≤ 9223372036854775807 := by split <;> omega
theorem outO_up {fs ch : List Fl} {fu : Int} {r : Nat} {ad : Bool} (h : chkN fs = 0) : outO fs false fu r ch ad = if r = 0 then (if fu = 0 then ⟨if ad then ch else fs, true, 0, 8⟩ else ⟨ch, false, if 0 < fu then fu - 1 else fu, 0⟩) else ⟨fs, false, fu, r⟩ := by
  unfold outO; rw [if_pos h, if_neg (by simp)]
theorem look_lt {fs : List Fl} {nm : ByteArray} {f : Fl} (h : look fs nm = some f) : idxN fs nm < fs.length := (List.getElem?_eq_some_iff.1 h).1
theorem look_ge {fs : List Fl} {nm : ByteArray} (h : look fs nm = none) : ¬ idxN fs nm < fs.length := fun h1 => by unfold look at h; rw [List.getElem?_eq_getElem h1] at h; cases h
theorem Sq.stop {S : Nat} {fs : List Fl} {da : ByteArray} {k : Nat} {o : Out} (h : Sq S fs da k o) (hr : o.r ≠ 0) (j : Nat) : Sq S fs da j o where
  chk := h.chk
  small := h.small
  lo := h.lo
  hi := h.hi
  up := h.up
  other := h.other
  keep := fun _ => h.keep (.inr hr)
  s1 := fun _ e => absurd e hr
  s2 := fun _ e => absurd e hr
  s3 := fun _ e => absurd e hr
  s4 := fun _ e => absurd e hr
  why := h.why
theorem sq1 (S : Nat) (fs : List Fl) (da : ByteArray) (fu : Int) (h0 : chkN fs = 0) (hs : ∀ f ∈ fs, f.da.size ≤ S) (hlo : -9223372036854775808 ≤ fu) (hhi : fu ≤ 9223372036854775807) : Sq S fs da 1 (rw1 nT fs false fu) := by
  obtain ⟨h4, hok⟩ := chk_fine fs h0
  unfold rw1
  cases hl : look fs nT with
  | none =>
    rw [if_pos (rd_none h0 hl).2]
    exact ⟨h0, hs, hlo, hhi, fun _ => rfl, fun _ _ _ => rfl, fun _ => rfl, fun _ _ => ⟨hl, Nat.le_refl _⟩, fun e => by omega, fun e => by omega, fun e => by omega, .inl rfl⟩
  | some f =>
    have hn := look_lt hl
    rw [if_neg (by rw [(rd_some h0 hl).2]; omega)]
    unfold drpO
    have hr : rsN fs nT = 0 := if_pos hn
    rw [outO_up h0, hr, if_pos rfl]
    have hok2 := del_ok hok (idxN fs nT)
    have hel : (fs.eraseIdx (idxN fs nT)).length = fs.length - 1 := List.length_eraseIdx_of_lt hn
    split
    · exact ⟨h0, hs, by show (-9223372036854775808 : Int) ≤ 0; omega, by show (0 : Int) ≤ 9223372036854775807; omega, (fun e => by cases e), fun _ _ _ => rfl, fun _ => rfl, (fun _ e => by cases e), fun e => by omega, fun e => by omega, fun e => by omega, .inr (.inl rfl)⟩
    · exact ⟨chk_of (by show (fs.eraseIdx _).length ≤ _; omega) hok2, fun x hx => hs x (List.mem_of_mem_eraseIdx hx), fu_lo hlo, fu_hi hhi, fun _ => rfl, fun nm hne _ => look_del hok nT nm hn hne, fun _ => look_del hok nT nH hn nHT, fun _ _ => ⟨look_del_self hok nT hn, by show (fs.eraseIdx _).length ≤ _; omega⟩, fun e => by omega, fun e => by omega, fun e => by omega, .inl rfl⟩
theorem sq2 (S : Nat) (hS : 24 ≤ S) (fs : List Fl) (da : ByteArray) (hda : da.size ≤ 24) (o : Out) (h : Sq S fs da 1 o) (hr : o.r = 0) : Sq S fs da 2 (addO o.fs o.dn o.fu nT da) := by
  obtain ⟨hl, hlen⟩ := h.s1 rfl hr
  obtain ⟨h4, hok⟩ := chk_fine _ h.chk
  have hn := look_ge hl
  have hF : addF o.fs nT da = ⟨nT, da, 0⟩ := by unfold addF; rw [hl]
  rw [h.up hr]
  unfold addO
  rw [outO_up h.chk, hF]
  have hh : hasN o.fs nT = false := by unfold hasN; simpa using hn
  have hra : raN o.fs.length nT (hasN o.fs nT) = if 4096 ≤ o.fs.length then 11 else 0 := by unfold raN; rw [okT', if_pos rfl, hh, if_neg (by simp)]
  rw [hra]
  have hpl : (putF o.fs ⟨nT, da, 0⟩).length = o.fs.length + 1 := by rw [put_len _ hok]; exact if_neg hn
  by_cases hful : 4096 ≤ o.fs.length
  · rw [if_pos hful, if_neg (by omega)]
    exact ⟨h.chk, h.small, h.lo, h.hi, (fun e => by cases e), h.other, fun _ => h.keep (.inl (by omega)), fun e => by omega, (fun _ e => by cases e), fun e => by omega, fun e => by omega, .inr (.inr ⟨rfl, by omega⟩)⟩
  · rw [if_neg hful, if_pos rfl]
    have hp : chkN (putF o.fs ⟨nT, da, 0⟩) = 0 := chk_of (by omega) (put_ok hok _ ⟨by show (0 : Int) ≤ 0; omega, by show (0 : Int) ≤ (da.size : Nat); omega⟩)
    have hps : ∀ f ∈ putF o.fs ⟨nT, da, 0⟩, f.da.size ≤ S := fun f hf => by
      rcases (put_mem hok _ f).1 hf with rfl | ⟨hf, -⟩
      · show da.size ≤ S; omega
      · exact h.small f hf
    have hoth : ∀ nm, nm ≠ nT → look (putF o.fs ⟨nT, da, 0⟩) nm = look o.fs nm := fun nm hne => look_put_ne hok ⟨nT, da, 0⟩ nm hne
    split
    · exact ⟨hp, hps, by show (-9223372036854775808 : Int) ≤ 0; omega, by show (0 : Int) ≤ 9223372036854775807; omega, (fun e => by cases e), fun nm h1 h2 => (hoth nm h1).trans (h.other nm h1 h2), fun _ => (hoth nH nHT).trans (h.keep (.inl (by omega))), fun e => by omega, (fun _ e => by cases e), fun e => by omega, fun e => by omega, .inr (.inl rfl)⟩
    · exact ⟨hp, hps, fu_lo h.lo, fu_hi h.hi, fun _ => rfl, fun nm h1 h2 => (hoth nm h1).trans (h.other nm h1 h2), fun _ => (hoth nH nHT).trans (h.keep (.inl (by omega))), fun e => by omega, fun _ _ => look_put hok ⟨nT, da, 0⟩, fun e => by omega, fun e => by omega, .inl rfl⟩
theorem sq3 (S : Nat) (hS : 24 ≤ S) (fs : List Fl) (da : ByteArray) (hda : da.size ≤ 24) (o : Out) (h : Sq S fs da 2 o) (hr : o.r = 0) : Sq S fs da 3 (synO o.fs o.dn o.fu nT) := by
  have hl := h.s2 rfl hr
  obtain ⟨h4, hok⟩ := chk_fine _ h.chk
  have hn := look_lt hl
  have hF : synF o.fs nT = ⟨nT, da, (da.size : Nat)⟩ := by unfold synF; rw [hl]
  rw [h.up hr]
  unfold synO
  have hrs : rsN o.fs nT = 0 := if_pos hn
  rw [outO_up h.chk, hF, hrs, if_pos rfl]
  have hpl : (putF o.fs ⟨nT, da, (da.size : Nat)⟩).length = o.fs.length := by rw [put_len _ hok]; exact if_pos hn
  have hp : chkN (putF o.fs ⟨nT, da, (da.size : Nat)⟩) = 0 := chk_of (by omega) (put_ok hok _ ⟨by show (0 : Int) ≤ (da.size : Nat); omega, Int.le_refl _⟩)
  have hps : ∀ f ∈ putF o.fs ⟨nT, da, (da.size : Nat)⟩, f.da.size ≤ S := fun f hf => by
    rcases (put_mem hok _ f).1 hf with rfl | ⟨hf, -⟩
    · show da.size ≤ S; omega
    · exact h.small f hf
  have hoth : ∀ nm, nm ≠ nT → look (putF o.fs ⟨nT, da, (da.size : Nat)⟩) nm = look o.fs nm := fun nm hne => look_put_ne hok ⟨nT, da, (da.size : Nat)⟩ nm hne
  split
  · exact ⟨h.chk, h.small, by show (-9223372036854775808 : Int) ≤ 0; omega, by show (0 : Int) ≤ 9223372036854775807; omega, (fun e => by cases e), h.other, fun _ => h.keep (.inl (by omega)), fun e => by omega, fun e => by omega, (fun _ e => by cases e), fun e => by omega, .inr (.inl rfl)⟩
  · exact ⟨hp, hps, fu_lo h.lo, fu_hi h.hi, fun _ => rfl, fun nm h1 h2 => (hoth nm h1).trans (h.other nm h1 h2), fun _ => (hoth nH nHT).trans (h.keep (.inl (by omega))), fun e => by omega, fun e => by omega, fun _ _ => look_put hok ⟨nT, da, (da.size : Nat)⟩, fun e => by omega, .inl rfl⟩
theorem sq4 (S : Nat) (hS : 24 ≤ S) (fs : List Fl) (da : ByteArray) (hda : da.size ≤ 24) (o : Out) (h : Sq S fs da 3 o) (hr : o.r = 0) : Sq S fs da 4 (swpO o.fs o.dn o.fu nT nH) := by
  have hl := h.s3 rfl hr
  obtain ⟨h4, hok⟩ := chk_fine _ h.chk
  have hn := look_lt hl
  have hF : swpF o.fs nT nH = ⟨nH, da, (da.size : Nat)⟩ := by unfold swpF; rw [hl]
  rw [h.up hr]
  unfold swpO
  have hrw : rwN o.fs nT nH = 0 := by
    unfold rwN
    rw [show o.fs[idxN o.fs nT]? = some ⟨nT, da, (da.size : Nat)⟩ from hl]
    show (if ((da.size : Nat) : Int) < (da.size : Nat) then 9 else if nmOk nH = true then 0 else 5) = 0
    rw [if_neg (by omega), if_pos okH]
  rw [outO_up h.chk, hF, hrw, if_pos rfl]
  have hok2 := del_ok hok (idxN o.fs nT)
  have hel : (o.fs.eraseIdx (idxN o.fs nT)).length = o.fs.length - 1 := List.length_eraseIdx_of_lt hn
  have hpl : (putF (o.fs.eraseIdx (idxN o.fs nT)) ⟨nH, da, (da.size : Nat)⟩).length ≤ o.fs.length := by rw [put_len _ hok2]; split <;> omega
  have hp : chkN (putF (o.fs.eraseIdx (idxN o.fs nT)) ⟨nH, da, (da.size : Nat)⟩) = 0 := chk_of (by omega) (put_ok hok2 _ ⟨by show (0 : Int) ≤ (da.size : Nat); omega, Int.le_refl _⟩)
  have hps : ∀ f ∈ putF (o.fs.eraseIdx (idxN o.fs nT)) ⟨nH, da, (da.size : Nat)⟩, f.da.size ≤ S := fun f hf => by
    rcases (put_mem hok2 _ f).1 hf with rfl | ⟨hf, -⟩
    · show da.size ≤ S; omega
    · exact h.small f (List.mem_of_mem_eraseIdx hf)
  have hoth : ∀ nm, nm ≠ nT → nm ≠ nH → look (putF (o.fs.eraseIdx (idxN o.fs nT)) ⟨nH, da, (da.size : Nat)⟩) nm = look o.fs nm := fun nm h1 h2 => (look_put_ne hok2 ⟨nH, da, (da.size : Nat)⟩ nm h2).trans (look_del hok nT nm hn h1)
  split
  · exact ⟨h.chk, h.small, by show (-9223372036854775808 : Int) ≤ 0; omega, by show (0 : Int) ≤ 9223372036854775807; omega, (fun e => by cases e), h.other, fun _ => h.keep (.inl (by omega)), fun e => by omega, fun e => by omega, fun e => by omega, (fun _ e => by cases e), .inr (.inl rfl)⟩
  · exact ⟨hp, hps, fu_lo h.lo, fu_hi h.hi, fun _ => rfl, fun nm h1 h2 => (hoth nm h1 h2).trans (h.other nm h1 h2), (fun e => by rcases e with e | e; omega; exact absurd rfl e), fun e => by omega, fun e => by omega, fun e => by omega, fun _ _ => look_put hok2 ⟨nH, da, (da.size : Nat)⟩, .inl rfl⟩
theorem sq_all (S : Nat) (hS : 24 ≤ S) (fs : List Fl) (da : ByteArray) (hda : da.size ≤ 24) (fu : Int) (h0 : chkN fs = 0) (hs : ∀ f ∈ fs, f.da.size ≤ S) (hlo : -9223372036854775808 ≤ fu) (hhi : fu ≤ 9223372036854775807) :
    Sq S fs da 1 (seqO nH nT da fs false fu 1) ∧ Sq S fs da 2 (seqO nH nT da fs false fu 2) ∧ Sq S fs da 3 (seqO nH nT da fs false fu 3) ∧ Sq S fs da 4 (seqO nH nT da fs false fu 4) := by
  have h1 : Sq S fs da 1 (seqO nH nT da fs false fu 1) := by
    rw [seq_succ]
    show Sq S fs da 1 (thenO ⟨fs, false, fu, 0⟩ (stp nH nT da 0))
    rw [thenO_ok rfl]
    exact sq1 S fs da fu h0 hs hlo hhi
  have h2 : Sq S fs da 2 (seqO nH nT da fs false fu 2) := by
    rw [seq_succ]
    by_cases hr : (seqO nH nT da fs false fu 1).r = 0
    · rw [thenO_ok hr]; exact sq2 S hS fs da hda _ h1 hr
    · rw [thenO_bad hr]; exact h1.stop hr 2
  have h3 : Sq S fs da 3 (seqO nH nT da fs false fu 3) := by
    rw [seq_succ]
    by_cases hr : (seqO nH nT da fs false fu 2).r = 0
    · rw [thenO_ok hr]; exact sq3 S hS fs da hda _ h2 hr
    · rw [thenO_bad hr]; exact h2.stop hr 3
  refine ⟨h1, h2, h3, ?_⟩
  rw [seq_succ]
  by_cases hr : (seqO nH nT da fs false fu 3).r = 0
  · rw [thenO_ok hr]; exact sq4 S hS fs da hda _ h3 hr
  · rw [thenO_bad hr]; exact h3.stop hr 4
theorem chk_bd {fs : List Fl} (h : chkN fs = 0) : Bd fs := ok_bd (chk_fine fs h).2
theorem small_fine {S : Nat} (hS : S ≤ 4611686018427387904) {fs : List Fl} (h : chkN fs = 0) (hs : ∀ f ∈ fs, f.da.size ≤ S) : Fine fs := fun f hf => by
  have h1 := hs f hf
  have h2 := chk_bd h f hf
  exact ⟨by unfold maxLen; omega, by omega, by omega⟩
theorem Sq.inv {S : Nat} (hS : S ≤ 4611686018427387904) {fs : List Fl} {da : ByteArray} (hda : da.size ≤ 24) {k : Nat} {o : Out} (h : Sq S fs da k o) : Inv da.size o where
  lo := h.lo
  hi := h.hi
  fine := small_fine hS h.chk h.small
  len := by have := (chk_fine _ h.chk).1; omega
  room := fun f hf => by have := h.small f hf; omega
/-- Save at a right disk. -/
theorem save_any (S : Nat) (hS : 24 ≤ S) (hS2 : S ≤ 4611686018427387904) (dv : Value) (fs : List Fl) (fu : Int) (h0 : chkN fs = 0) (hs : ∀ f ∈ fs, f.da.size ≤ S) (hlo : -9223372036854775808 ≤ fu) (hhi : fu ≤ 9223372036854775807) (t v : Nat) (ht : t < 2 ^ 64) (hv : v ≤ 7) (w : World) (hf : Files w w.heap.size dv fs) :
    Calls Try.prog 11 #[.agg #[dv, .bool false, .int .i64 fu], .agg #[.int .u64 (t : Nat), .int .i64 (v : Nat)]] w (DoW w (.slice none 0 0) (seqO nH nT (encB t v) fs false fu 4).fs (seqO nH nT (encB t v) fs false fu 4).dn (seqO nH nT (encB t v) fs false fu 4).fu (seqO nH nT (encB t v) fs false fu 4).r) := by
  have hda := encB_size t v ht hv
  obtain ⟨h1, h2, h3, h4⟩ := sq_all S hS fs (encB t v) hda fu h0 hs hlo hhi
  have hi0 : Inv (encB t v).size ⟨fs, false, fu, 0⟩ := ⟨hlo, hhi, small_fine hS2 h0 hs, by have := (chk_fine _ h0).1; show fs.length ≤ _; omega, fun f hf => by have := hs f hf; omega⟩
  have hi : ∀ k, k ≤ 4 → Inv (encB t v).size (seqO nH nT (encB t v) fs false fu k) := by
    intro k hk
    have h5 : k = 0 ∨ k = 1 ∨ k = 2 ∨ k = 3 ∨ k = 4 := by omega
    rcases h5 with rfl | rfl | rfl | rfl | rfl
    · exact hi0
    · exact h1.inv hS2 hda
    · exact h2.inv hS2 hda
    · exact h3.inv hS2 hda
    · exact h4.inv hS2 hda
  have hA := all4 nH nT (encB t v) fs false fu (by omega) hi
  refine save_ok dv false fu fs t v (seqO nH nT (encB t v) fs false fu 4) ht hv (fun x g pF pT pC hx hr => ?_) w hf
  exact do_rewrite nH nT (encB t v) (seqO nH nT (encB t v) fs false fu) hA rfl (fun k hk hr => by
    obtain ⟨j, e⟩ : ∃ j, 4 = k + j := ⟨4 - k, by omega⟩
    rw [show seqO nH nT (encB t v) fs false fu 4 = seqO nH nT (encB t v) fs false fu (k + j) by rw [← e]]
    exact seq_stop nH nT (encB t v) fs false fu k hr j) (by show fs.length ≤ 4096; exact (chk_fine _ h0).1) hi0.fine dv g pF pT pC x hx hr
theorem crash_none {fs : List Fl} {ks : List Int} {nm : ByteArray} (h0 : chkN fs = 0) (hl : look fs nm = none) : chkN (crS fs ks fs.length) = 0 ∧ look (crS fs ks fs.length) nm = none := by
  have h9 : chkN (crS fs ks fs.length) = 0 := chk_same fs _ h0 (crS_len _ _ _) (fun i i1 i2 => by obtain ⟨D, e, -⟩ := crS_each fs ks h0 i i2 i1; rw [e]) (fun i i1 => by obtain ⟨D, e, -⟩ := crS_each fs ks h0 i (by rw [crS_len] at i1; exact i1) i1; rw [e]; simp)
  refine ⟨h9, look_none.2 fun f hf => ?_⟩
  obtain ⟨i, hi, rfl⟩ := List.getElem_of_mem hf
  have hi2 : i < fs.length := by rw [crS_len] at hi; exact hi
  obtain ⟨D, e, -⟩ := crS_each fs ks h0 i hi2 hi
  rw [e]
  exact look_none.1 hl fs[i] (List.getElem_mem hi2)
theorem crash_small {S : Nat} {fs : List Fl} {ks : List Int} (h0 : chkN fs = 0) (hs : ∀ f ∈ fs, f.da.size ≤ S) : ∀ f ∈ crS fs ks fs.length, f.da.size ≤ S ∧ f.sy = (f.da.size : Nat) := by
  intro f hf
  obtain ⟨i, hi, rfl⟩ := List.getElem_of_mem hf
  have hi2 : i < fs.length := by rw [crS_len] at hi; exact hi
  obtain ⟨D, e, h1, h2, h3⟩ := crS_each fs ks h0 i hi2 hi
  rw [e]
  have := hs _ (List.getElem_mem hi2)
  exact ⟨by show D.size ≤ S; omega, rfl⟩
theorem crash_chk {fs : List Fl} {ks : List Int} (h0 : chkN fs = 0) : chkN (crS fs ks fs.length) = 0 := by
  cases hl : look fs nT with
  | none => exact (crash_none h0 hl).1
  | some f => exact chk_same fs _ h0 (crS_len _ _ _) (fun i i1 i2 => by obtain ⟨D, e, -⟩ := crS_each fs ks h0 i i2 i1; rw [e]) (fun i i1 => by obtain ⟨D, e, -⟩ := crS_each fs ks h0 i (by rw [crS_len] at i1; exact i1) i1; rw [e]; simp)
theorem ld_look {fs gs : List Fl} (h0 : chkN fs = 0) (h1 : chkN gs = 0) (hl : look gs nH = look fs nH) : ldT gs false = ldT fs false ∧ ldV gs false = ldV fs false ∧ ldE gs false = ldE fs false := by
  have hh : nHd = nH := rfl
  have key : rdS gs false nHd = rdS fs false nHd ∧ rdE gs false nHd = rdE fs false nHd := by
    rw [hh]
    cases hf : look fs nH with
    | none =>
      rw [hf] at hl
      obtain ⟨a1, a2⟩ := rd_none h0 hf
      obtain ⟨b1, b2⟩ := rd_none h1 hl
      exact ⟨b1.trans a1.symm, b2.trans a2.symm⟩
    | some f =>
      rw [hf] at hl
      obtain ⟨a1, a2⟩ := rd_some h0 hf
      obtain ⟨b1, b2⟩ := rd_some h1 hl
      exact ⟨b1.trans a1.symm, b2.trans a2.symm⟩
  unfold ldT ldV ldE
  rw [key.1, key.2]
  exact ⟨rfl, rfl, rfl⟩
/-- What is loaded behind a save, whatever the power took, and a crash. -/
theorem save_crash (S : Nat) (hS : 24 ≤ S) (fs : List Fl) (fu : Int) (ks : List Int) (h0 : chkN fs = 0) (hs : ∀ f ∈ fs, f.da.size ≤ S ∧ f.sy = (f.da.size : Nat)) (hlo : -9223372036854775808 ≤ fu) (hhi : fu ≤ 9223372036854775807) (t v : Nat) (ht : t < 2 ^ 64) (hv : v ≤ 7) (o : Out) (ho : o = seqO nH nT (encB t v) fs false fu 4) :
    chkN o.fs = 0 ∧ chkN (crS o.fs ks o.fs.length) = 0 ∧ (o.r = 0 ∨ o.r = 8 ∨ (o.r = 11 ∧ 4096 ≤ fs.length)) ∧
    (o.r = 0 → ldT (crS o.fs ks o.fs.length) false = t ∧ ldV (crS o.fs ks o.fs.length) false = v ∧ ldE (crS o.fs ks o.fs.length) false = 0) ∧
    (¬ o.r = 0 → ldT (crS o.fs ks o.fs.length) false = ldT fs false ∧ ldV (crS o.fs ks o.fs.length) false = ldV fs false ∧ ldE (crS o.fs ks o.fs.length) false = ldE fs false) := by
  have hda := encB_size t v ht hv
  have hq := (sq_all S hS fs (encB t v) hda fu h0 (fun f hf => (hs f hf).1) hlo hhi).2.2.2
  rw [← ho] at hq
  have hc : chkN (crS o.fs ks o.fs.length) = 0 := crash_chk hq.chk
  refine ⟨hq.chk, hc, hq.why, fun hr => ?_, fun hr => ?_⟩
  · have hl := hq.s4 rfl hr
    have hl2 := (crash_look (ks := ks) hq.chk hl rfl).2
    obtain ⟨e1, e2, e3⟩ := load_enc t v ht hv
    have hH : look [fH (encB t v)] nH = some (fH (encB t v)) := by unfold look; rw [idxHH]; rfl
    obtain ⟨l1, l2, l3⟩ := ld_look (chkH1 (encB t v)) hc (hl2.trans hH.symm)
    exact ⟨l1.trans e1, l2.trans e2, l3.trans e3⟩
  · refine ld_look h0 hc ?_
    have hk := hq.keep (.inr hr)
    cases hl : look fs nH with
    | none => rw [hl] at hk; exact (crash_none hq.chk hk).2
    | some f =>
      rw [hl] at hk
      exact (crash_look (ks := ks) hq.chk hk ((hs f (look_mem hl).1).2)).2
end Dk
end Go.Proofs.Ytpncflgcfndhmaa

/- LAW: HardTwo. -/
namespace Go.Proofs.Ytpncflgcfndhmaa
open Go.RowKit Go.Lib Go.Sort
namespace Dk
theorem St.new {w x : World} {v : Value} {dn : Bool} {fu : Int} {fs : List Fl} (hb : Below w.heap.size w x) (hf : Files x x.heap.size v fs) : St w x.heap.size (x.alloc (.cells #[v, .bool dn, .int .i64 fu] 24)) v dn fu fs :=
  ⟨hb.size, by simp, hb.alloc hb.size _, Dx.made _ _ _ _, hf.al _⟩
theorem files_lt {w : World} {B : Nat} {v : Value} {fs : List Fl} (h : Files w B v fs) (hn : 0 < fs.length) : ∀ b off n c, v = .slice (some ⟨b, off, none⟩) n c → b < B := by
  obtain ⟨a, c, rfl, -, -, h3⟩ := h
  obtain ⟨b, off, rfl, hlt, -⟩ := h3 hn
  intro b' off' n c' e
  simp only [Value.slice.injEq, Option.some.injEq, Addr.mk.injEq] at e
  omega
theorem St.fuse {w x : World} {B : Nat} {v : Value} {dn : Bool} {fu : Int} {fs : List Fl} (h : St w B x v dn fu fs) (hne : ∀ b off c, v = .slice (some ⟨b, off, none⟩) fs.length c → b ≠ B) (f : Int) : St w B (x.setCell ⟨B, 2, none⟩ (.int .i64 f)) v dn f fs := by
  obtain ⟨h1, h2, h3, ⟨d0, d1, d2, d3, d4, d5⟩, h5⟩ := h
  refine ⟨h1, by simpa using h2, bset h3 h1 _, ⟨?_, ?_, ?_, ?_, ?_, ?_⟩, h5.st _ _ hne⟩
  · exact (World.cell?_setCell_other _ _ _ _ (by simp)).trans d0
  · exact (World.cell?_setCell_other _ _ _ _ (by simp)).trans d1
  · exact World.cell?_setCell_same _ _ _ d2
  · exact (World.frozen?_setCell _ _ _ _).trans d3
  · exact (World.frozen?_setCell _ _ _ _).trans d4
  · exact (World.frozen?_setCell _ _ _ _).trans d5
def eqHd (t1 v1 t2 v2 : Int) : Bool := decide (t1 = t2) && decide (v1 = v2)
set_option maxRecDepth 100000 in
theorem eql_hard (t1 v1 t2 v2 : Int) (w : World) : (binOp .eql 27 (.agg #[.int .u64 t1, .int .i64 v1]) (.agg #[.int .u64 t2, .int .i64 v2])).run Try.prog w = .ok (.bool (eqHd t1 v1 t2 v2)) w := by
  have u3 := Try.underlying3
  have u9 := Try.underlying25
  have a3 := Try.isAgg3
  have a9 := Try.isAgg25
  have z3 := Try.sizeOf3
  have z9 := Try.sizeOf25
  have hS : Try.prog.underlying 27 = some (.struct (Try.prog.fieldsOf 27)) := by kernel_rfl
  have hp : Try.prog.stoodInHeld 27 = false := by kernel_rfl
  rw [run_eql_struct, show (10000 : Nat) = 9999 + 1 from rfl, run_equalIn_agg w 9999 27 _ _ hS hp]
  simp only [Program.fieldsOf, Try.underlying27]
  go_simp
  by_cases h1 : t1 = t2 <;> by_cases h2 : v1 = v2 <;> simp [h1, h2, eqHd]
theorem guard_hard : Try.prog.eqGuardType Try.prog.depth 27 = false := by kernel_rfl
theorem eqHd_self (t v : Int) : eqHd t v t v = true := by simp [eqHd]
theorem two_boxes {w w1 : World} {a b : Array Value} {t u : TypeId} (hb : Below ((w.alloc (.cells a t)).alloc (.cells b u)).heap.size ((w.alloc (.cells a t)).alloc (.cells b u)) w1) :
    (∀ i, w1.cell? ⟨w.heap.size, i, none⟩ = a[i]?) ∧ (∀ i, w1.cell? ⟨w.heap.size + 1, i, none⟩ = b[i]?) ∧ Below w.heap.size w w1 ∧ w.heap.size + 2 ≤ w1.heap.size := by
  refine ⟨fun i => ?_, fun i => ?_, (((Below.refl _ w).alloc (Nat.le_refl _) _).alloc (by simp) _).trans (hb.mono (by simp; omega)), by have := hb.size; simpa using this⟩
  · rw [hb.cell (by simp <;> omega)]; simp [go_sem]
  · rw [hb.cell (by simp)]; simp [go_sem]
def maxF (fu : Int) : Int := if fu < -1 then -1 else fu
set_option maxRecDepth 100000 in
set_option maxHeartbeats 8000000 in
theorem hardTwo_ok (ta va tb vb : Nat) (hta : ta < 2 ^ 64) (htb : tb < 2 ^ 64) (hva : va ≤ 7) (hvb : vb ≤ 7) (fu : Int) (hlo : -9223372036854775808 ≤ fu) (hhi : fu ≤ 9223372036854775807) (kv : Value) (ks : List Int) (w : World) (hk : Ints w w.heap.size kv ks) :
    Calls Try.prog 6 #[.agg #[.int .u64 ta, .int .i64 va], .agg #[.int .u64 tb, .int .i64 vb], .int .i64 fu, kv] w fun e w' => e = .returned (.bool true) ∧ Below w.heap.size w w' := by
  have hsz := encB_size ta va hta hva
  have hmlo : -9223372036854775808 ≤ maxF fu := by unfold maxF; split <;> omega
  have hmhi : maxF fu ≤ 9223372036854775807 := by unfold maxF; split <;> omega
  have h24 : ∀ f ∈ [fH (encB ta va)], f.da.size ≤ 140737488355328 ∧ f.sy = (f.da.size : Nat) := mem1 ⟨by show (encB ta va).size ≤ _; omega, rfl⟩
  have HSA := Lib.hid (fun x => save_nil ta va hta hva x)
  have hsb := fun dv x hf => save_any 140737488355328 (by omega) (by omega) dv [fH (encB ta va)] (maxF fu) (chkH1 _) (fun f hf => (h24 f hf).1) hmlo hmhi tb vb htb hvb x hf
  obtain ⟨o, ho⟩ : ∃ o, o = seqO nH nT (encB tb vb) [fH (encB ta va)] false (maxF fu) 4 := ⟨_, rfl⟩
  have hsm := (sq_all 140737488355328 (by omega) [fH (encB ta va)] (encB tb vb) (encB_size tb vb htb hvb) (maxF fu) (chkH1 _) (fun f hf => (h24 f hf).1) hmlo hmhi).2.2.2.small
  obtain ⟨q1, q2, q3, q4, q5⟩ := save_crash 140737488355328 (by omega) [fH (encB ta va)] (maxF fu) ks (chkH1 _) h24 hmlo hmhi tb vb htb hvb o ho
  rw [← ho] at hsb hsm
  obtain ⟨e1, e2, e3⟩ := load_enc ta va hta hva
  rw [e1, e2, e3] at q5
  have HCS := Lib.hid (crash_small (ks := ks) q1 hsm)
  rcases o with ⟨f4, dn4, fu4, r4⟩
  simp only at hsb q1 q2 q3 q4 q5 HCS
  have HSB := Lib.hid hsb
  have hr11 : r4 = 0 ∨ r4 = 8 := by
    rcases q3 with h | h | ⟨-, h⟩
    · exact .inl h
    · exact .inr h
    · simp at h
  have HCR := Lib.hid (fun x v hv hki => crash_own v kv dn4 fu4 f4 ks x hv hki q1)
  generalize crS f4 ks f4.length = f5 at *
  have HFI := Lib.hid (small_fine (S := 140737488355328) (by omega) q2 (fun f hf => (HCS.out f hf).1))
  have HLE : Hid (f5.length ≤ 4611686018427387904) := by have := (chk_fine _ q2).1; show f5.length ≤ _; omega
  have hld := fun v x hv => load_any v false (-1) f5 x hv
  unfold LoadIs at hld
  have HG : Hid (∃ gt gv : Nat, (r4 = 0 → gt = tb ∧ gv = vb) ∧ (¬ r4 = 0 → gt = ta ∧ gv = va) ∧ ∀ v x, Files x x.heap.size v f5 → Calls Try.prog 9 #[.agg #[v, .bool false, .int .i64 (-1)]] x fun e w' => e = .returned (.tuple #[.agg #[.int .u64 gt, .int .i64 gv], .int .i64 0]) ∧ Below x.heap.size x w') := by
    refine ⟨ldT f5 false, ldV f5 false, fun h => ⟨(q4 h).1, (q4 h).2.1⟩, fun h => ⟨(q5 h).1, (q5 h).2.1⟩, fun v x hv => ?_⟩
    have h0 : ldE f5 false = 0 := by
      by_cases h : r4 = 0
      · exact (q4 h).2.2
      · exact (q5 h).2.2
    have := hld v x hv
    rw [h0] at this
    exact this
  obtain ⟨gt, gv, g0, g1, hgl⟩ := HG.out
  have HGL := Lib.hid hgl
  have HCB := Lib.hid (fun x => Hd.check_any (tb : Nat) (vb : Nat) x)
  have hcb : Hd.chkH (vb : Nat) = 0 := by unfold Hd.chkH; rw [if_neg (by omega), if_neg (by omega)]
  rw [hcb] at HCB
  have HK := Lib.hid hk
  have HQ1 := Lib.hid q1
  have G0 := Lib.hid g0
  have G1 := Lib.hid g1
  generalize encB ta va = da at *
  have gf := guard_hard
  have HEQ := Lib.hid (fun t1 v1 t2 v2 w => eql_hard t1 v1 t2 v2 w)
  clear hsz hmlo hmhi h24 hsb hsm q1 q2 q3 q4 q5 e1 e2 e3 hld HG hgl g0 g1 hcb ho hk HCS
  go_enter Try.func6, Try.ntmps6
  go_wp2_with fail
  refine (hlives _).mono ?_
  rintro e w1 ⟨rfl, hb⟩
  obtain ⟨c0, c1, hbw, hz1⟩ := two_boxes hb
  have HW1 := Lib.hid hbw
  have C0 := Lib.hid c0
  have C1 := Lib.hid c1
  clear hb hbw c1
  go_wp2_with fail
  refine (HSA.out _).mono ?_
  rintro e w2 ⟨v2, rfl, hf, -, hb⟩
  obtain ⟨a2, c2, rfl⟩ : ∃ a c, v2 = .slice a 1 c := files_slice hf
  have HS2 := Lib.hid (St.new (dn := false) (fu := -1) hb hf)
  have HNE : Hid (∀ b off c, Value.slice a2 1 c2 = .slice (some ⟨b, off, none⟩) [fH da].length c → b ≠ w2.heap.size) := fun b off c e => by have := files_lt hf (by simp) b off _ c e; omega
  have k1 : ∀ i, (w2.alloc (.cells #[.slice a2 1 c2, .bool false, .int .i64 (-1)] 24)).cell? ⟨w.heap.size + 1, i, none⟩ = #[.int .u64 tb, .int .i64 vb][i]? := fun i => (HS2.out.below.cell (by show w.heap.size + 1 < _; omega)).trans (C1.out i)
  clear hb hf c0
  go_wp2_with fail
  refine (HCB.out _).mono ?_
  rintro e w3 ⟨rfl, hb⟩
  have HS3 := Lib.hid (HS2.out.keep hb)
  clear hb k1
  obtain ⟨d0, d1, d2, d3, d4, d5⟩ := HS3.out.dx
  have HS4 : Hid (St w1 w2.heap.size (w3.setCell ⟨w2.heap.size, 2, none⟩ (.int .i64 (maxF fu))) (.slice a2 1 c2) false (maxF fu) [fH da]) := HS3.out.fuse HNE.out _
  have k1 : ∀ i, (w3.setCell ⟨w2.heap.size, 2, none⟩ (.int .i64 (maxF fu))).cell? ⟨w.heap.size + 1, i, none⟩ = #[.int .u64 tb, .int .i64 vb][i]? := fun i => (HS4.out.below.cell (by show w.heap.size + 1 < _; omega)).trans (C1.out i)
  have hmx : max fu (-1) = maxF fu := by unfold maxF; split <;> omega
  go_wp2_with fail
  refine (HSB.out _ _ HS4.out.files).mono ?_
  rintro e w4 ⟨v4, rfl, hf4, -, hb⟩
  obtain ⟨a4, c4, rfl⟩ := files_slice hf4
  have HB4 := Lib.hid (HS4.out.below.trans (hb.mono HS4.out.below.size))
  have HS5 := Lib.hid (St.new (w := w1) (dn := dn4) (fu := fu4) HB4.out hf4)
  have HK5 := Lib.hid (HK.out.on ((HW1.out.trans (HB4.out.mono (by omega))).alloc (Nat.le_trans (by omega : w.heap.size ≤ w1.heap.size) HB4.out.size) (.cells #[.slice a4 f4.length c4, .bool dn4, .int .i64 fu4] 24)))
  clear hb hf4 k1 d0 d1 d2 d3 d4 d5 hmx
  generalize f4.length = n4 at *
  go_wp2_with fail
  refine (HCR.out _ _ HS5.out.files HK5.out).mono ?_
  intro e w5 hd
  obtain ⟨v5, rfl, ⟨a5, c5, rfl⟩, hs, hS, _⟩ := HS5.out.step hd HFI.out HLE.out
  have HS6 := Lib.hid hS
  unfold st3 at HS6
  obtain ⟨d0, d1, d2, d3, d4, d5⟩ := hs.dx
  clear hd hs hS
  generalize f5.length = n5 at *
  go_wp2_with fail
  refine (HGL.out _ _ HS6.out.files).mono ?_
  rintro e w6 ⟨rfl, hb⟩
  have HB6 := Lib.hid (HS6.out.below.trans (hb.mono HS6.out.below.size))
  have HAL := Lib.hid (HB6.out.alloc HB6.out.size (.cells #[.int .u64 gt, .int .i64 gv] 27))
  have m0 : ∀ i, (w6.alloc (.cells #[.int .u64 gt, .int .i64 gv] 27)).cell? ⟨w.heap.size, i, none⟩ = #[.int .u64 ta, .int .i64 va][i]? := fun i => (HAL.out.cell (by show w.heap.size < _; omega)).trans (C0.out i)
  have m1 : ∀ i, (w6.alloc (.cells #[.int .u64 gt, .int .i64 gv] 27)).cell? ⟨w.heap.size + 1, i, none⟩ = #[.int .u64 tb, .int .i64 vb][i]? := fun i => (HAL.out.cell (by show w.heap.size + 1 < _; omega)).trans (C1.out i)
  have HW9 : Hid (Below w.heap.size w (w6.alloc (.cells #[.int .u64 gt, .int .i64 gv] 27))) := HW1.out.trans (HAL.out.mono (by omega))
  clear hb d0 d1 d2 d3 d4 d5
  by_cases hr : r4 = 0
  · obtain ⟨e5, e6⟩ := G0.out hr
    subst e5 e6 hr
    have heq := HEQ.out gt gv gt gv
    rw [eqHd_self] at heq
    clear hr11 HS5 HCR
    go_wp2
    go_ret
    exact ⟨rfl, HW9.out⟩
  · obtain ⟨e5, e6⟩ := G1.out hr
    have hr8 : r4 = 8 := by omega
    subst e5 e6 hr8
    have heq := HEQ.out gt gv gt gv
    rw [eqHd_self] at heq
    have heq2 := HEQ.out gt gv tb vb
    clear hr hr11 HS5 HCR
    generalize eqHd (gt : Int) (gv : Int) (tb : Int) (vb : Int) = q at heq2
    cases q
    · go_wp2
      go_ret
      exact ⟨rfl, HW9.out⟩
    · go_wp2
      go_ret
      exact ⟨rfl, HW9.out⟩
set_option maxRecDepth 100000 in
set_option maxHeartbeats 4000000 in
theorem hardTwo_bada (ta va tb vb : Int) (hva : Hd.chkH va ≠ 0) (fu : Int) (kv : Value) (w : World) :
    Calls Try.prog 6 #[.agg #[.int .u64 ta, .int .i64 va], .agg #[.int .u64 tb, .int .i64 vb], .int .i64 fu, kv] w fun e w' => e = .returned (.bool true) ∧ Below w.heap.size w w' := by
  have HSA := Lib.hid (fun x => save_bad ta va hva x)
  have HCA := Lib.hid (fun x => Hd.check_any ta va x)
  have hv1 : Hd.chkH va = 1 := by unfold Hd.chkH at hva ⊢; split <;> simp_all
  rw [hv1] at HSA HCA
  clear hva hv1
  go_enter Try.func6, Try.ntmps6
  go_wp2_with fail
  refine (hlives _).mono ?_
  rintro e w1 ⟨rfl, hb⟩
  obtain ⟨c0, c1, hbw, hz1⟩ := two_boxes hb
  have HW1 := Lib.hid hbw
  have C0 := Lib.hid c0
  clear hb hbw c1
  go_wp2_with fail
  refine (HSA.out _).mono ?_
  rintro e w2 ⟨v2, rfl, hf, hb⟩
  obtain ⟨a2, c2, rfl⟩ : ∃ a c, v2 = .slice a 0 c := files_slice hf
  have HB2 := Lib.hid (hb.alloc hb.size (.cells #[.slice a2 0 c2, .bool false, .int .i64 (-1)] 24))
  have k0 : ∀ i, (w2.alloc (.cells #[.slice a2 0 c2, .bool false, .int .i64 (-1)] 24)).cell? ⟨w.heap.size, i, none⟩ = #[.int .u64 ta, .int .i64 va][i]? := fun i => (HB2.out.cell (by show w.heap.size < _; omega)).trans (C0.out i)
  clear hb hf c0
  go_wp2_with fail
  refine (HCA.out _).mono ?_
  rintro e w3 ⟨rfl, hb⟩
  have HW3 := Lib.hid (HW1.out.trans ((HB2.out.trans (hb.mono HB2.out.size)).mono (by omega)))
  clear hb k0
  go_wp2
  go_ret
  exact ⟨rfl, HW3.out⟩
set_option maxRecDepth 100000 in
set_option maxHeartbeats 4000000 in
theorem hardTwo_badb (ta va : Nat) (tb vb : Int) (hta : ta < 2 ^ 64) (hva : va ≤ 7) (hvb : Hd.chkH vb ≠ 0) (fu : Int) (kv : Value) (w : World) :
    Calls Try.prog 6 #[.agg #[.int .u64 ta, .int .i64 va], .agg #[.int .u64 tb, .int .i64 vb], .int .i64 fu, kv] w fun e w' => e = .returned (.bool true) ∧ Below w.heap.size w w' := by
  have HSA := Lib.hid (fun x => save_nil ta va hta hva x)
  have HCA := Lib.hid (fun x => Hd.check_any (ta : Nat) (va : Nat) x)
  have HCB := Lib.hid (fun x => Hd.check_any tb vb x)
  have hv1 : Hd.chkH vb = 1 := by unfold Hd.chkH at hvb ⊢; split <;> simp_all
  have hv0 : Hd.chkH (va : Nat) = 0 := by unfold Hd.chkH; rw [if_neg (by omega), if_neg (by omega)]
  rw [hv1] at HCB
  rw [hv0] at HCA
  generalize encB ta va = da at *
  clear hvb hv1 hv0
  go_enter Try.func6, Try.ntmps6
  go_wp2_with fail
  refine (hlives _).mono ?_
  rintro e w1 ⟨rfl, hb⟩
  obtain ⟨c0, c1, hbw, hz1⟩ := two_boxes hb
  have HW1 := Lib.hid hbw
  have C0 := Lib.hid c0
  have C1 := Lib.hid c1
  clear hb hbw c1
  go_wp2_with fail
  refine (HSA.out _).mono ?_
  rintro e w2 ⟨v2, rfl, hf, -, hb⟩
  obtain ⟨a2, c2, rfl⟩ : ∃ a c, v2 = .slice a 1 c := files_slice hf
  have HB2 := Lib.hid (hb.alloc hb.size (.cells #[.slice a2 1 c2, .bool false, .int .i64 (-1)] 24))
  have k1 : ∀ i, (w2.alloc (.cells #[.slice a2 1 c2, .bool false, .int .i64 (-1)] 24)).cell? ⟨w.heap.size + 1, i, none⟩ = #[.int .u64 tb, .int .i64 vb][i]? := fun i => (HB2.out.cell (by show w.heap.size + 1 < _; omega)).trans (C1.out i)
  clear hb hf c0
  go_wp2_with fail
  refine (HCB.out _).mono ?_
  rintro e w3 ⟨rfl, hb⟩
  have HB3 := Lib.hid (HB2.out.trans (hb.mono HB2.out.size))
  have k0 : ∀ i, w3.cell? ⟨w.heap.size, i, none⟩ = #[.int .u64 ta, .int .i64 va][i]? := fun i => (HB3.out.cell (by show w.heap.size < _; omega)).trans (C0.out i)
  clear hb k1
  go_wp2_with fail
  refine (HCA.out _).mono ?_
  rintro e w4 ⟨rfl, hb⟩
  have HW4 := Lib.hid (HW1.out.trans ((HB3.out.trans (hb.mono HB3.out.size)).mono (by omega)))
  clear hb k0
  go_wp2
  go_ret
  exact ⟨rfl, HW4.out⟩
theorem hardTwo (ta va tb vb : Int) (ha : (Lit.int .u64 ta).wf = true ∧ (Lit.int .i64 va).wf = true) (hb : (Lit.int .u64 tb).wf = true ∧ (Lit.int .i64 vb).wf = true) (fu : Int) (hfu : (Lit.int .i64 fu).wf = true) (kv : Value) (ks : List Int) (w : World) (hk : Ints w w.heap.size kv ks) :
    Calls Try.prog 6 #[.agg #[.int .u64 ta, .int .i64 va], .agg #[.int .u64 tb, .int .i64 vb], .int .i64 fu, kv] w fun e w' => e = .returned (.bool true) ∧ Below w.heap.size w w' := by
  have h1 : 0 ≤ ta ∧ ta ≤ 18446744073709551615 := by simpa [Lit.wf, IntKind.min, IntKind.max, IntKind.signed, IntKind.bits] using ha.1
  have h2 : 0 ≤ tb ∧ tb ≤ 18446744073709551615 := by simpa [Lit.wf, IntKind.min, IntKind.max, IntKind.signed, IntKind.bits] using hb.1
  have h3 : -9223372036854775808 ≤ fu ∧ fu ≤ 9223372036854775807 := by simpa [Lit.wf, IntKind.min, IntKind.max, IntKind.signed, IntKind.bits] using hfu
  by_cases hva : Hd.chkH va = 0
  · have h7 : 0 ≤ va ∧ va ≤ 7 := by unfold Hd.chkH at hva; split at hva <;> (try split at hva) <;> omega
    obtain ⟨ta, rfl⟩ := Int.eq_ofNat_of_zero_le h1.1
    obtain ⟨va, rfl⟩ := Int.eq_ofNat_of_zero_le h7.1
    by_cases hvb : Hd.chkH vb = 0
    · have h8 : 0 ≤ vb ∧ vb ≤ 7 := by unfold Hd.chkH at hvb; split at hvb <;> (try split at hvb) <;> omega
      obtain ⟨tb, rfl⟩ := Int.eq_ofNat_of_zero_le h2.1
      obtain ⟨vb, rfl⟩ := Int.eq_ofNat_of_zero_le h8.1
      exact hardTwo_ok ta va tb vb (by omega) (by omega) (by omega) (by omega) fu h3.1 h3.2 kv ks w hk
    · exact hardTwo_badb ta va tb vb (by omega) (by omega) hvb fu kv w
  · exact hardTwo_bada ta va tb vb hva fu kv w
end Dk
end Go.Proofs.Ytpncflgcfndhmaa

/- SAVING at any disk: what it comes to. -/
namespace Go.Proofs.Ytpncflgcfndhmaa
open Go.RowKit Go.Lib Go.Sort
namespace Dk
set_option maxHeartbeats 1000000 in
theorem clone_any (v : Value) (fs : List Fl) (w : World) (hv : Files w w.heap.size v fs) (h4 : fs.length * 40 ≤ 140737488355328) :
    Calls Try.prog 31 #[v] w fun e w' => ∃ v', e = .returned v' ∧ Own w' w.heap.size v' fs ∧ Below w.heap.size w w' := by
  obtain ⟨a, c, rfl, hl, hs, hc⟩ := hv
  have q22 : ∀ (w : World) (a : Option Addr) (n c n' c' : Nat), (binOp .eql 22 (.slice a n c) (.slice none n' c')).run Try.prog w = .ok (.bool a.isNone) w := fun w a n c n' c' => Lib.run_eql_slice_nil w _ _ a n c n' c' Try.underlying22
  cases a with
  | none =>
    have h0 : fs = [] := by
      by_cases hn : 0 < fs.length
      · obtain ⟨b, off, he, _⟩ := hc hn; cases he
      · exact List.eq_nil_of_length_eq_zero (by omega)
    subst h0
    clear hc hs
    go_enter Try.func31, Try.ntmps31
    go_wp2
    go_ret
    exact ⟨_, rfl, World.ownsRow_nil _ _ _ _, Below.refl _ _⟩
  | some ad =>
    obtain ⟨i0, hi, hz0, hz1, hz2⟩ := info_parts info_file
    have A := Lib.hid (file_cells w (some ad) fs w.heap.size hc ad rfl)
    have hmx : fs.length ≤ maxLen := by simp only [maxLen]; omega
    have hl3 := flat_len fs
    have h1 := flat_one fs
    clear hc hs
    have H3 := Lib.hid hl3
    have H1 := Lib.hid h1
    clear hl3 h1
    generalize hx : flat fs = xs at A H3 H1
    have HX := Lib.hid hx
    clear hx
    go_enter Try.func31, Try.ntmps31
    go_wp2_with (at_builtin; refine wpList_append_own _ rfl _ _ 22 rfl w.heap.size 59 i0 _ 3 40 Try.underlying22 hi hz0 hz1 hz2 rfl (by omega) _ _ _ rfl (World.ownsRow_made w #[] 0 (Nat.le_refl _) (Nat.zero_le _) (by simp)) ad fs.length c xs rfl H3.out (fun j u hj => Lib.cell?_alloc_some _ (A.out j u hj)) H1.out (by rw [Nat.zero_add]; exact hmx) (by rw [Nat.zero_add]; omega) (by simp) ?_; intro v' w1 hown hgrow hnil)
    go_ret
    refine ⟨v', rfl, ?_, ?_⟩
    · unfold Own; rw [HX.out]; simpa using hown
    · exact ((Below.refl _ w).alloc (Nat.le_refl _) _).grown hgrow (by simp) (fun k hk => Nat.le_of_eq (Option.some.inj hk))
set_option maxRecDepth 100000 in
set_option maxHeartbeats 4000000 in
theorem do_rewrite_any (nf nt da : ByteArray) (o : Nat → Out) (hA : All4 nf nt da o) (h00 : (o 0).r = 0) (hstop : ∀ k, k ≤ 4 → (o k).r ≠ 0 → o 4 = o k) (h4 : (o 0).fs.length * 40 ≤ 140737488355328) (hfine : Fine (o 0).fs) (v : Value) (g pF pT pC : Nat) (w : World)
    (hv : Files w w.heap.size v (o 0).fs) (hr : Rw w g pF pT pC nf nt da) :
    Calls Try.prog 25 #[.agg #[v, .bool (o 0).dn, .int .i64 (o 0).fu], .slice (some ⟨g, 0, none⟩) 4 4] w (DoW w (.slice none 0 0) (o 4).fs (o 4).dn (o 4).fu (o 4).r) := by
  have HV := Lib.hid hv
  have HR := Lib.hid hr
  have HA := Lib.hid hA
  have HS := Lib.hid hstop
  have H0 := Lib.hid h00
  have hcl := fun w hw => clone_any v (o 0).fs w hw h4
  have HC := Lib.hid hcl
  obtain ⟨a, c, rfl, -⟩ := hv
  clear hA hstop h00 hr hcl
  unfold DoW
  go_enter Try.func25, Try.ntmps25
  go_wp2_with fail
  refine (HC.out _ ((HV.out.al _).al _)).mono ?_
  rintro e w1 ⟨v1, rfl, hown, hb⟩
  obtain ⟨a1, c1, rfl⟩ := hown.slice
  have HB := Lib.hid hb
  have HO := Lib.hid hown
  have hz := hb.size
  simp at hz
  obtain ⟨⟨x0, x1, x2⟩, x3, x4, x5⟩ := box2 (v := .slice a (o 0).fs.length c) (dn := (o 0).dn) (fu := (o 0).fu) (hb.mono (by simp))
  have k0 : ∀ i, w1.cell? ⟨w.heap.size, i, none⟩ = #[.slice a (o 0).fs.length c, .bool (o 0).dn, .int .i64 (o 0).fu][i]? := fun i => by rw [hb.cell (by simp; omega)]; simp [go_sem]
  have f0 : ∀ i, w1.frozen? ⟨w.heap.size, i, none⟩ = false := fun i => (hb.frozen (by simp; omega)).trans (by simp [go_sem])
  have HD0 : Hid (Dx w.heap.size (w1.setCell ⟨w.heap.size, 0, none⟩ (.slice a1 (o 0).fs.length c1)) (.slice a1 (o 0).fs.length c1) (o 0).dn (o 0).fu) := by
    show Dx _ _ _ _ _
    constructor <;> simp [go_sem, k0, f0]
  have HE0 : Hid (Dx (w.heap.size + 1) (w1.setCell ⟨w.heap.size, 0, none⟩ (.slice a1 (o 0).fs.length c1)) (.slice none 0 0) false 0) := by
    show Dx _ _ _ _ _
    constructor <;> simp [go_sem, x0, x1, x2, x3, x4, x5]
  have HW0 : Hid (Below w.heap.size w (w1.setCell ⟨w.heap.size, 0, none⟩ (.slice a1 (o 0).fs.length c1))) := bset (((((Below.refl _ _).alloc (Nat.le_refl _) _).alloc (by simp) _).trans (hb.mono (by simp; omega)))) (Nat.le_refl _) _
  have HF0 : Hid (Files (w1.setCell ⟨w.heap.size, 0, none⟩ (.slice a1 (o 0).fs.length c1)) (w1.setCell ⟨w.heap.size, 0, none⟩ (.slice a1 (o 0).fs.length c1)).heap.size (.slice a1 (o 0).fs.length c1) (o 0).fs) :=
    Own.files (HO.out.sb (by show w.heap.size < _; simp; omega) _) hfine (by omega)
  clear hb hown x0 x1 x2 x3 x4 x5 hfine h4
  go_wp2
  go_loopg [15] 4 (fun gg i wx => ∃ (k : Nat) (v : Value), k + gg = 4 ∧ i = .int .i64 k ∧ Aside ((o k).r = 0) ∧ Aside (Now w wx v (o k)))
  case atStart => exact ⟨0, _, by omega, rfl, H0.out, ⟨HD0.out, HE0.out, HF0.out, HO.out.hi.le (by simp), HW0.out, by simp; omega⟩⟩
  case round =>
    obtain ⟨k, v, hkg, rfl, HR0, HN⟩ := hrel
    obtain ⟨hd, he, hf, hhi, hbw, hlt1⟩ := HN.out
    have HD := Lib.hid hd
    have HE := Lib.hid he
    have HFL := Lib.hid hf
    have HHI := Lib.hid hhi
    have HRW := Lib.hid (HR.out.below hbw)
    have HBW := Lib.hid hbw
    have hlt0 : w.heap.size < wr.heap.size := by omega
    obtain ⟨av, cv, rfl⟩ := files_slice hf
    obtain ⟨d0, d1, d2, d3, d4, d5⟩ := hd
    obtain ⟨x0, x1, x2, x3, x4, x5⟩ := he
    clear hf hhi hbw HN k0 f0
    cases gk with
    | zero =>
      obtain rfl : k = 4 := by omega
      clear hkg
      have HR4 := HR0
      generalize hq : o 4 = o2 at *
      have HQ4 := Lib.hid hq
      clear hq
      rcases o2 with ⟨fs2, dn2, fu2, r2⟩
      obtain rfl : r2 = 0 := HR4.out
      simp only at *
      go_wp2
      refine bodyPost_disk rfl (w.heap.size + 1) (.slice av fs2.length cv) dn2 fu2 rfl rfl ?_ ?_ ?_ ?_
      case refine_1 => go_simp
      case refine_2 => go_simp
      case refine_3 => go_simp
      case refine_4 => first | exact state_end0 HFL.out HHI.out HBW.out | (rw [HQ4.out]; exact state_end0 HFL.out HHI.out HBW.out)
    | succ gg =>
      have HG := Lib.hid hkg
      have hk : k = 0 ∨ k = 1 ∨ k = 2 ∨ k = 3 := by omega
      clear hkg
      rcases hk with rfl | rfl | rfl | rfl
      · obtain ⟨q0, q1, q2, q3, -⟩ := HRW.out
        have HK := Lib.hid (HA.out.c0 HR0.out wr g pF pT pC (.slice av (o 0).fs.length cv) HFL.out HRW.out)
        clear q1 q2 q3
        generalize hq : o 1 = o2 at *
        have HQ := Lib.hid hq
        clear hq
        go_wp2_with fail
        refine HK.out.mono ?_
        rintro e w2 ⟨v2, rfl, hf2, hh2, hb2⟩
        have HH2 := Lib.hid (hh2 _ (by omega) HHI.out)
        have HF2 := Lib.hid hf2
        obtain ⟨a2, c2, rfl⟩ := files_slice hf2
        have e0 := Dx.on HD.out hb2 hlt0
        have e1 := Dx.on HE.out hb2 hlt1
        obtain ⟨d0, d1, d2, d3, d4, d5⟩ := e0
        obtain ⟨x0, x1, x2, x3, x4, x5⟩ := e1
        have hz2 := hb2.size
        have HB2 := Lib.hid (HBW.out.trans (hb2.mono (by omega)))
        have HD2 := Lib.hid (Dx.on HD.out hb2 hlt0)
        have HE2 := Lib.hid (Dx.on HE.out hb2 hlt1)
        clear hf2 hh2 hb2
        rcases o2 with ⟨fs2, dn2, fu2, r2⟩
        simp only at *
        by_cases hr2 : r2 = 0
        · subst hr2
          go_wp2
          go_roundg gg
          case measure => omega
          case rel => exact ⟨1, .slice a2 fs2.length c2, by have := HG.out; omega, rfl, by show (o 1).r = 0; rw [HQ.out], by
            rw [HQ.out]
            exact state_next HD2.out HE2.out HF2.out HH2.out HB2.out (by omega)⟩
        · have hr3 : ¬ ((r2 : Int) = 0) := by omega
          have hr4 : ((r2 : Int) != 0) = true := by simp; omega
          have HST : Hid (o 4 = ⟨fs2, dn2, fu2, r2⟩) := (HS.out 1 (by omega) (by rw [HQ.out]; exact hr2)).trans HQ.out
          clear hr2
          go_wp2
          refine bodyPost_disk rfl (w.heap.size + 1) (.slice a2 fs2.length c2) dn2 fu2 rfl rfl ?_ ?_ ?_ ?_
          case refine_1 => go_simp
          case refine_2 => go_simp
          case refine_3 => go_simp
          case refine_4 =>
            rw [HST.out]
            exact state_end HF2.out HH2.out HB2.out
      · obtain ⟨q0, q1, q2, q3, -⟩ := HRW.out
        have HK := Lib.hid (HA.out.c1 HR0.out wr g pF pT pC (.slice av (o 1).fs.length cv) HFL.out HRW.out)
        clear q0 q2 q3
        generalize hq : o 2 = o2 at *
        have HQ := Lib.hid hq
        clear hq
        go_wp2_with fail
        refine HK.out.mono ?_
        rintro e w2 ⟨v2, rfl, hf2, hh2, hb2⟩
        have HH2 := Lib.hid (hh2 _ (by omega) HHI.out)
        have HF2 := Lib.hid hf2
        obtain ⟨a2, c2, rfl⟩ := files_slice hf2
        have e0 := Dx.on HD.out hb2 hlt0
        have e1 := Dx.on HE.out hb2 hlt1
        obtain ⟨d0, d1, d2, d3, d4, d5⟩ := e0
        obtain ⟨x0, x1, x2, x3, x4, x5⟩ := e1
        have hz2 := hb2.size
        have HB2 := Lib.hid (HBW.out.trans (hb2.mono (by omega)))
        have HD2 := Lib.hid (Dx.on HD.out hb2 hlt0)
        have HE2 := Lib.hid (Dx.on HE.out hb2 hlt1)
        clear hf2 hh2 hb2
        rcases o2 with ⟨fs2, dn2, fu2, r2⟩
        simp only at *
        by_cases hr2 : r2 = 0
        · subst hr2
          go_wp2
          go_roundg gg
          case measure => omega
          case rel => exact ⟨2, .slice a2 fs2.length c2, by have := HG.out; omega, rfl, by show (o 2).r = 0; rw [HQ.out], by
            rw [HQ.out]
            exact state_next HD2.out HE2.out HF2.out HH2.out HB2.out (by omega)⟩
        · have hr3 : ¬ ((r2 : Int) = 0) := by omega
          have hr4 : ((r2 : Int) != 0) = true := by simp; omega
          have HST : Hid (o 4 = ⟨fs2, dn2, fu2, r2⟩) := (HS.out 2 (by omega) (by rw [HQ.out]; exact hr2)).trans HQ.out
          clear hr2
          go_wp2
          refine bodyPost_disk rfl (w.heap.size + 1) (.slice a2 fs2.length c2) dn2 fu2 rfl rfl ?_ ?_ ?_ ?_
          case refine_1 => go_simp
          case refine_2 => go_simp
          case refine_3 => go_simp
          case refine_4 =>
            rw [HST.out]
            exact state_end HF2.out HH2.out HB2.out
      · obtain ⟨q0, q1, q2, q3, -⟩ := HRW.out
        have HK := Lib.hid (HA.out.c2 HR0.out wr g pF pT pC (.slice av (o 2).fs.length cv) HFL.out HRW.out)
        clear q0 q1 q3
        generalize hq : o 3 = o2 at *
        have HQ := Lib.hid hq
        clear hq
        go_wp2_with fail
        refine HK.out.mono ?_
        rintro e w2 ⟨v2, rfl, hf2, hh2, hb2⟩
        have HH2 := Lib.hid (hh2 _ (by omega) HHI.out)
        have HF2 := Lib.hid hf2
        obtain ⟨a2, c2, rfl⟩ := files_slice hf2
        have e0 := Dx.on HD.out hb2 hlt0
        have e1 := Dx.on HE.out hb2 hlt1
        obtain ⟨d0, d1, d2, d3, d4, d5⟩ := e0
        obtain ⟨x0, x1, x2, x3, x4, x5⟩ := e1
        have hz2 := hb2.size
        have HB2 := Lib.hid (HBW.out.trans (hb2.mono (by omega)))
        have HD2 := Lib.hid (Dx.on HD.out hb2 hlt0)
        have HE2 := Lib.hid (Dx.on HE.out hb2 hlt1)
        clear hf2 hh2 hb2
        rcases o2 with ⟨fs2, dn2, fu2, r2⟩
        simp only at *
        by_cases hr2 : r2 = 0
        · subst hr2
          go_wp2
          go_roundg gg
          case measure => omega
          case rel => exact ⟨3, .slice a2 fs2.length c2, by have := HG.out; omega, rfl, by show (o 3).r = 0; rw [HQ.out], by
            rw [HQ.out]
            exact state_next HD2.out HE2.out HF2.out HH2.out HB2.out (by omega)⟩
        · have hr3 : ¬ ((r2 : Int) = 0) := by omega
          have hr4 : ((r2 : Int) != 0) = true := by simp; omega
          have HST : Hid (o 4 = ⟨fs2, dn2, fu2, r2⟩) := (HS.out 3 (by omega) (by rw [HQ.out]; exact hr2)).trans HQ.out
          clear hr2
          go_wp2
          refine bodyPost_disk rfl (w.heap.size + 1) (.slice a2 fs2.length c2) dn2 fu2 rfl rfl ?_ ?_ ?_ ?_
          case refine_1 => go_simp
          case refine_2 => go_simp
          case refine_3 => go_simp
          case refine_4 =>
            rw [HST.out]
            exact state_end HF2.out HH2.out HB2.out
      · obtain ⟨q0, q1, q2, q3, -⟩ := HRW.out
        have HK := Lib.hid (HA.out.c3 HR0.out wr g pF pT pC (.slice av (o 3).fs.length cv) HFL.out HRW.out)
        clear q0 q1 q2
        generalize hq : o 4 = o2 at *
        have HQ := Lib.hid hq
        clear hq
        go_wp2_with fail
        refine HK.out.mono ?_
        rintro e w2 ⟨v2, rfl, hf2, hh2, hb2⟩
        have HH2 := Lib.hid (hh2 _ (by omega) HHI.out)
        have HF2 := Lib.hid hf2
        obtain ⟨a2, c2, rfl⟩ := files_slice hf2
        have e0 := Dx.on HD.out hb2 hlt0
        have e1 := Dx.on HE.out hb2 hlt1
        obtain ⟨d0, d1, d2, d3, d4, d5⟩ := e0
        obtain ⟨x0, x1, x2, x3, x4, x5⟩ := e1
        have hz2 := hb2.size
        have HB2 := Lib.hid (HBW.out.trans (hb2.mono (by omega)))
        have HD2 := Lib.hid (Dx.on HD.out hb2 hlt0)
        have HE2 := Lib.hid (Dx.on HE.out hb2 hlt1)
        clear hf2 hh2 hb2
        rcases o2 with ⟨fs2, dn2, fu2, r2⟩
        simp only at *
        by_cases hr2 : r2 = 0
        · subst hr2
          go_wp2
          go_roundg gg
          case measure => omega
          case rel => exact ⟨4, .slice a2 fs2.length c2, by have := HG.out; omega, rfl, by show (o 4).r = 0; rw [HQ.out], by
            rw [HQ.out]
            exact state_next HD2.out HE2.out HF2.out HH2.out HB2.out (by omega)⟩
        · have hr3 : ¬ ((r2 : Int) = 0) := by omega
          have hr4 : ((r2 : Int) != 0) = true := by simp; omega
          have HST : Hid (True) := trivial
          clear hr2
          go_wp2
          refine bodyPost_disk rfl (w.heap.size + 1) (.slice a2 fs2.length c2) dn2 fu2 rfl rfl ?_ ?_ ?_ ?_
          case refine_1 => go_simp
          case refine_2 => go_simp
          case refine_3 => go_simp
          case refine_4 =>
            first | exact state_end HF2.out HH2.out HB2.out | (rw [HQ.out]; exact state_end HF2.out HH2.out HB2.out)
theorem outO_wr {fs ch : List Fl} {dn : Bool} {fu : Int} {r : Nat} {ad : Bool} (h : chkN fs ≠ 0) : outO fs dn fu r ch ad = ⟨[], false, 0, 10⟩ := by unfold outO; rw [if_neg h]
theorem outO_pw {fs ch : List Fl} {fu : Int} {r : Nat} {ad : Bool} (h : chkN fs = 0) : outO fs true fu r ch ad = ⟨fs, true, fu, 8⟩ := by unfold outO; rw [if_pos h, if_pos rfl]
/-- What a save comes to at a disk that is not right, or without power. -/
theorem seq_wrong (da : ByteArray) (fs : List Fl) (dn : Bool) (fu : Int) (h : chkN fs ≠ 0 ∨ dn = true) : ∃ o : Out, ¬ o.r = 0 ∧ (o = ⟨[], false, 0, 10⟩ ∨ o = ⟨fs, true, fu, 8⟩) ∧ ∀ k, 1 ≤ k → seqO nH nT da fs dn fu k = o := by
  have h1 : seqO nH nT da fs dn fu 1 = rw1 nT fs dn fu := by
    rw [seq_succ]
    show thenO ⟨fs, dn, fu, 0⟩ (stp nH nT da 0) = _
    rw [thenO_ok rfl]; rfl
  have key : ∀ o : Out, ¬ o.r = 0 → rw1 nT fs dn fu = o → ∀ k, 1 ≤ k → seqO nH nT da fs dn fu k = o := by
    intro o hr he k hk
    obtain ⟨j, rfl⟩ : ∃ j, k = 1 + j := ⟨k - 1, by omega⟩
    have h9 : (seqO nH nT da fs dn fu 1).r ≠ 0 := by rw [h1, he]; exact hr
    rw [seq_stop nH nT da fs dn fu 1 h9 j, h1, he]
  by_cases h0 : chkN fs = 0
  · have hd : dn = true := by rcases h with h | h; exact absurd h0 h; exact h
    subst hd
    refine ⟨⟨fs, true, fu, 8⟩, by show ¬ (8 : Nat) = 0; omega, .inr rfl, key _ (by show ¬ (8 : Nat) = 0; omega) ?_⟩
    unfold rw1
    have h6 : ¬ rdE fs true nT = 6 := by unfold rdE rdN; rw [if_pos h0]; simp
    rw [if_neg h6]
    exact outO_pw h0
  · refine ⟨⟨[], false, 0, 10⟩, by show ¬ (10 : Nat) = 0; omega, .inl rfl, key _ (by show ¬ (10 : Nat) = 0; omega) ?_⟩
    unfold rw1
    have h6 : ¬ rdE fs dn nT = 6 := by unfold rdE rdN; rw [if_neg h0]; simp
    rw [if_neg h6]
    exact outO_wr h0
/-- Save at a disk that is not right, or without power. -/
theorem save_wrong (dv : Value) (fs : List Fl) (dn : Bool) (fu : Int) (h : chkN fs ≠ 0 ∨ dn = true) (h40 : fs.length * 40 ≤ 140737488355328) (hs : ∀ f ∈ fs, f.da.size ≤ 140737488355328) (hlo : -9223372036854775808 ≤ fu) (hhi : fu ≤ 9223372036854775807) (t v : Nat) (ht : t < 2 ^ 64) (hv : v ≤ 7) (w : World) (hf : Files w w.heap.size dv fs) :
    Calls Try.prog 11 #[.agg #[dv, .bool dn, .int .i64 fu], .agg #[.int .u64 (t : Nat), .int .i64 (v : Nat)]] w (DoW w (.slice none 0 0) (seqO nH nT (encB t v) fs dn fu 4).fs (seqO nH nT (encB t v) fs dn fu 4).dn (seqO nH nT (encB t v) fs dn fu 4).fu (seqO nH nT (encB t v) fs dn fu 4).r) := by
  have hda := encB_size t v ht hv
  obtain ⟨o, hr, ho, hk⟩ := seq_wrong (encB t v) fs dn fu h
  have hfine := hf.fine
  have hi0 : Inv (encB t v).size ⟨fs, dn, fu, 0⟩ := ⟨hlo, hhi, hfine, by show fs.length ≤ _; omega, fun f hf => by have := hs f hf; omega⟩
  have hio : Inv (encB t v).size o := by
    rcases ho with rfl | rfl
    · exact ⟨by show (-9223372036854775808 : Int) ≤ 0; omega, by show (0 : Int) ≤ 9223372036854775807; omega, (fun f hf => by cases hf), by show (0 : Nat) ≤ _; omega, (fun f hf => by cases hf)⟩
    · exact ⟨hlo, hhi, hfine, by show fs.length ≤ _; omega, fun f hf => by have := hs f hf; omega⟩
  have hi : ∀ k, k ≤ 4 → Inv (encB t v).size (seqO nH nT (encB t v) fs dn fu k) := by
    intro k hk4
    by_cases h0 : k = 0
    · subst h0; exact hi0
    · rw [hk k (by omega)]; exact hio
  have hA := all4 nH nT (encB t v) fs dn fu (by omega) hi
  rw [hk 4 (by omega)]
  refine save_ok dv dn fu fs t v o ht hv (fun x g pF pT pC hx hr => ?_) w hf
  have := do_rewrite_any nH nT (encB t v) (seqO nH nT (encB t v) fs dn fu) hA rfl (fun k hk4 hr => by
    by_cases h0 : k = 0
    · subst h0; exact absurd rfl hr
    · rw [hk k (by omega), hk 4 (by omega)]) h40 hfine dv g pF pT pC x hx hr
  rw [hk 4 (by omega)] at this
  exact this
/-- None at any disk. -/
def nonO (fs : List Fl) (dn : Bool) (fu : Int) : Out := if chkN fs = 0 then ⟨fs, dn, fu, 0⟩ else ⟨[], false, 0, 0⟩
def SomeD (w : World) (fs : List Fl) (dn : Bool) (fu : Int) (e : Ending) (w' : World) : Prop := ∃ v', e = .returned (.agg #[v', .bool dn, .int .i64 fu]) ∧ Files w' w'.heap.size v' fs ∧ Hi w.heap.size v' ∧ Below w.heap.size w w'
set_option maxRecDepth 100000 in
set_option maxHeartbeats 4000000 in
theorem none_any (dv : Value) (dn : Bool) (fu : Int) (fs : List Fl) (w : World) (hf : Files w w.heap.size dv fs) : Calls Try.prog 24 #[.agg #[dv, .bool dn, .int .i64 fu]] w (SomeD w (nonO fs dn fu).fs (nonO fs dn fu).dn (nonO fs dn fu).fu) := by
  have HC0 := Lib.hid (fun x hx => check_own dv dn fu fs x hx)
  have HF := Lib.hid hf
  have hfine := hf.fine
  by_cases h0 : chkN fs = 0
  · have hno : nonO fs dn fu = ⟨fs, dn, fu, 0⟩ := by unfold nonO; rw [if_pos h0]
    rw [hno]
    show Calls _ _ _ _ (SomeD w fs dn fu)
    clear hno
    rw [h0] at HC0
    have h4 := (chk_fine fs h0).1
    have HCL := Lib.hid (fun x hx => clone_own dv fs x hx h4)
    have HFI := Lib.hid hfine
    obtain ⟨a, c, rfl⟩ := files_slice hf
    generalize hn : fs.length = n at *
    have HN := Lib.hid hn
    clear hf h0 hfine hn
    unfold SomeD
    go_enter Try.func24, Try.ntmps24
    go_wp2_with (go_at_call 30; go_loud (refine (HC0.out _ ((HF.out.al _).al _)).mono ?_; rintro e w1 ⟨rfl, hb⟩; obtain ⟨hd, he, hw, hz⟩ := two_made _ _ _ _ _ _ _ _ hb; have HD1 := Lib.hid hd; have HE1 := Lib.hid he; have HW1 := Lib.hid hw; have HZ1 := Lib.hid hz; obtain ⟨d0, d1, d2, d3, d4, d5⟩ := hd; clear hb he hw hz))
    go_wp2_with (go_at_call 31; go_loud (refine (HCL.out _ (HF.out.on HW1.out HW1.out.size)).mono ?_; rintro e w2 ⟨v2, rfl, hown, hb⟩; obtain ⟨a2, c2, hv2⟩ := hown.slice; rw [HN.out] at hv2; subst hv2; obtain ⟨d0, d1, d2, d3, d4, d5⟩ := HD1.out.keep hb (Nat.lt_of_lt_of_le (by omega) HZ1.out); obtain ⟨x0, x1, x2, x3, x4, x5⟩ := HE1.out.keep hb (Nat.lt_of_lt_of_le (by omega) HZ1.out); have HB2 := Lib.hid (HW1.out.trans (hb.mono HW1.out.size)); have HI2 := Lib.hid (hown.hi); have HF2 := Lib.hid (hown.files HFI.out (by rw [HN.out]; omega)); clear hb hown))
    go_wp2
    refine bodyPost_disk1 rfl (w.heap.size + 1) (.slice a2 n c2) dn fu rfl rfl ?_ ?_ ?_ ?_
    case refine_1 => go_simp
    case refine_2 => go_simp
    case refine_3 => go_simp
    case refine_4 => exact ⟨_, rfl, ((HF2.out.put (HI2.out.le (B := w.heap.size + 2) (by have := HZ1.out; omega)) (by omega)).put3 (HI2.out.le (B := w.heap.size + 2) (by have := HZ1.out; omega)) (by omega)), HI2.out.le (by have := HZ1.out; omega), below3 (bset HB2.out (Nat.le_refl _) _) (Nat.le_succ _)⟩
  · have hno : nonO fs dn fu = ⟨[], false, 0, 0⟩ := by unfold nonO; rw [if_neg h0]
    rw [hno]
    show Calls _ _ _ _ (SomeD w [] false 0)
    clear hno
    have h10 := (chk_two fs).resolve_left h0
    rw [h10] at HC0
    obtain ⟨a, c, rfl⟩ := files_slice hf
    generalize fs.length = n at *
    clear hf h0 hfine
    unfold SomeD
    go_enter Try.func24, Try.ntmps24
    go_wp2_with (go_at_call 30; go_loud (refine (HC0.out _ ((HF.out.al _).al _)).mono ?_; rintro e w1 ⟨rfl, hb⟩; obtain ⟨hd, he, hw, hz⟩ := two_made _ _ _ _ _ _ _ _ hb; have HE1 := Lib.hid he; have HW1 := Lib.hid hw; have HZ1 := Lib.hid hz; obtain ⟨x0, x1, x2, x3, x4, x5⟩ := he; clear hb hd hw hz))
    go_wp2
    refine bodyPost_disk1 rfl (w.heap.size + 1) (.slice none 0 0) false 0 rfl rfl ?_ ?_ ?_ ?_
    case refine_1 => go_simp
    case refine_2 => go_simp
    case refine_3 => go_simp
    case refine_4 => exact ⟨_, rfl, ⟨none, 0, rfl, by simp, by simp, by simp⟩, hi_none _ _ _, by first | exact HW1.out | exact below3 HW1.out (Nat.le_succ _)⟩
set_option maxRecDepth 100000 in
set_option maxHeartbeats 4000000 in
theorem save_badv (dv : Value) (dn : Bool) (fu : Int) (fs : List Fl) (t v : Int) (hv : Hd.chkH v ≠ 0) (w : World) (hf : Files w w.heap.size dv fs) :
    Calls Try.prog 11 #[.agg #[dv, .bool dn, .int .i64 fu], .agg #[.int .u64 t, .int .i64 v]] w (DoW w (.slice none 0 0) (nonO fs dn fu).fs (nonO fs dn fu).dn (nonO fs dn fu).fu 1) := by
  have HCK := Lib.hid (fun w => Hd.check_any t v w)
  have hv1 : Hd.chkH v = 1 := by unfold Hd.chkH at hv ⊢; split <;> simp_all
  rw [hv1] at HCK
  have HF := Lib.hid hf
  have HN0 := fun x hx => none_any dv dn fu fs x hx
  generalize nonO fs dn fu = O at HN0 ⊢
  rcases O with ⟨fs2, dn2, fu2, r2⟩
  simp only at HN0 ⊢
  have HN := Lib.hid HN0
  clear HN0
  unfold SomeD at HN
  obtain ⟨a, c, rfl⟩ := files_slice hf
  generalize fs.length = n at *
  clear hv hv1 hf
  go_enter Try.func11, Try.ntmps11
  go_wp2_with (go_at_call 15; go_loud (refine (HCK.out _).mono ?_; rintro e w1 ⟨rfl, hb⟩; obtain ⟨hd, he, hw, hz⟩ := three_made _ _ _ _ _ _ _ _ _ _ hb; have HD1 := Lib.hid hd; have HE1 := Lib.hid he; have HW1 := Lib.hid hw; have HZ1 := Lib.hid hz; obtain ⟨d0, d1, d2, d3, d4, d5⟩ := hd; clear hb he hw hz))
  go_wp2_with (go_at_call 24; go_loud (refine (HN.out _ (HF.out.on HW1.out HW1.out.size)).mono ?_; rintro e w2 ⟨v2, rfl, hf2, hh2, hb⟩; obtain ⟨a2, c2, rfl⟩ := files_slice hf2; obtain ⟨x0, x1, x2, x3, x4, x5⟩ := HE1.out.keep hb (Nat.lt_of_lt_of_le (by omega) HZ1.out); have HB2 := Lib.hid (HW1.out.trans (hb.mono HW1.out.size)); have HF2 := Lib.hid hf2; have HH2 := Lib.hid (hh2.le (B := w.heap.size + 3) (by have := HZ1.out; omega)); clear hb hf2 hh2))
  go_wp2
  refine bodyPost_disk rfl (w.heap.size + 1 + 1) (.slice a2 fs2.length c2) dn2 fu2 rfl rfl ?_ ?_ ?_ ?_
  case refine_1 => go_simp
  case refine_2 => go_simp
  case refine_3 => go_simp
  case refine_4 => exact ⟨_, rfl, HF2.out.put3 HH2.out (by omega), fun B hB _ => HH2.out.le (by omega), below3 HB2.out (by omega)⟩
end Dk
end Go.Proofs.Ytpncflgcfndhmaa

/- THE DOCUMENT's layer 4: Check, file, Load, Put, Save. -/

namespace Go.Proofs.Ytpncflgcfndhmaa
open Go.RowKit
namespace PM
/-- Bytes that begin with a number begin with its bytes. -/
theorem tn_canon (l : List UInt8) (h : tnW l = 0) : l = num (tnN l) ++ tnR l := by
  cases l with
  | nil => simp [tnW] at h
  | cons b r =>
    have hN : tnN (b :: r) = val (r.take b.toNat) := by unfold tnN; rw [if_pos h]; rfl
    have hR : tnR (b :: r) = r.drop b.toNat := by unfold tnR; rw [if_pos h, Nat.add_comm]; rfl
    simp only [tnW] at h
    have h1 : ¬ 8 < b.toNat := fun e => by rw [if_pos e] at h; omega
    rw [if_neg h1] at h
    have h2 : ¬ (0 < b.toNat ∧ r.head? = some 0) := fun e => by rw [if_pos e] at h; omega
    rw [if_neg h2] at h
    have h3 : ¬ r.length < b.toNat := fun e => by rw [if_pos e] at h; omega
    have ht : (r.take b.toNat).length = b.toNat := by rw [List.length_take]; omega
    have hbe := be_val (r.take b.toNat)
    rw [ht] at hbe
    have hlt : val (r.take b.toNat) < 256 ^ b.toNat := by have := val_lt (r.take b.toNat); rwa [ht] at this
    have hge : 0 < b.toNat → 256 ^ (b.toNat - 1) ≤ val (r.take b.toNat) := by
      intro hp
      rcases Nat.lt_or_ge (val (r.take b.toNat)) (256 ^ (b.toNat - 1)) with hl | hl
      · exfalso
        apply h2
        refine ⟨hp, ?_⟩
        obtain ⟨j, hj⟩ : ∃ j, b.toNat = j + 1 := ⟨b.toNat - 1, by omega⟩
        rw [hj] at hbe hl
        rw [be_cons, Nat.add_sub_cancel] at *
        rw [Nat.div_eq_of_lt hl] at hbe
        cases r with
        | nil => simp at hbe
        | cons c r2 =>
          simp only [List.take_succ_cons, List.cons.injEq] at hbe
          rw [List.head?_cons, ← hbe.1]; rfl
      · exact hl
    have h64 : val (r.take b.toNat) < 2 ^ 64 := by
      have h4 : 256 ^ b.toNat ≤ 256 ^ 8 := Nat.pow_le_pow_right (by omega) (by omega)
      have h5 : (256 : Nat) ^ 8 = 2 ^ 64 := by decide
      omega
    have hs := nsz_unique _ _ h64 hlt hge
    rw [hN, hR]
    show b :: r = UInt8.ofNat (nsz _) :: be (nsz _) _ ++ _
    rw [hs, hbe, List.cons_append, List.take_append_drop]
    simp
/-- Bytes that begin with a frame begin with the frame of its payload. -/
theorem tf_canon (l : List UInt8) (h : tfW l = 0) : l = frm (tfP l) ++ tfR l := by
  have hP : tfP l = (l.drop 6).take (sizeOf4 l) := by unfold tfP; rw [if_pos h]
  have hR : tfR l = l.drop (6 + sizeOf4 l) := by unfold tfR; rw [if_pos h]
  unfold tfW at h
  have h1 : ¬ l.length < 4 := fun e => by rw [if_pos e] at h; omega
  rw [if_neg h1] at h
  have h2 : ¬ 65536 < sizeOf4 l := fun e => by rw [if_pos e] at h; omega
  rw [if_neg h2] at h
  have h3 : ¬ l.length < 6 + sizeOf4 l := fun e => by rw [if_pos e] at h; omega
  rw [if_neg h3] at h
  have h4 : (l.drop 4).take 2 = chk (l.take 4 ++ (l.drop 6).take (sizeOf4 l)) := Decidable.byContradiction fun e => by rw [if_pos e] at h; omega
  have hl : ((l.drop 6).take (sizeOf4 l)).length = sizeOf4 l := by rw [List.length_take, List.length_drop]; omega
  have hbe : be 4 (sizeOf4 l) = l.take 4 := by
    have := be_val (l.take 4)
    rw [List.length_take, Nat.min_eq_left (by omega)] at this
    exact this
  rw [hP, hR]
  unfold frm
  rw [hl, hbe, ← h4, List.append_assoc, List.append_assoc]
  have e1 : (l.drop 6).take (sizeOf4 l) ++ l.drop (6 + sizeOf4 l) = l.drop 6 := by rw [← List.drop_drop, List.take_append_drop]
  have e2 : (l.drop 4).take 2 ++ l.drop 6 = l.drop 4 := by rw [show (6 : Nat) = 4 + 2 from rfl, ← List.drop_drop, List.take_append_drop]
  rw [e1, e2, List.take_append_drop]
end PM
namespace Hd
open PM
/-- When the document takes a file's bytes for a term and a vote. -/
def rfOk (l : List UInt8) : Prop := tfW l = 0 ∧ tnW (tfP l) = 0 ∧ tnW (tnR (tfP l)) = 0 ∧ tnN (tnR (tfP l)) ≤ 7 ∧ encL (tnN (tfP l)) (tnN (tnR (tfP l))) = l
theorem dcOk_iff (l : List UInt8) : dcOk l = true ↔ rfOk l := by
  unfold rfOk
  constructor
  · intro h
    unfold dcOk at h
    simp only [Bool.and_eq_true, Bool.not_eq_true', List.isEmpty_iff] at h
    obtain ⟨h1, h2⟩ := h
    by_cases hf : tfW l = 0 ∧ tfR l = []
    · have hfm : fmL l = tfP l := (fm_ok l hf.1 hf.2).1
      rw [hfm] at h1 h2
      unfold upB at h1
      unfold upR at h2
      by_cases h7 : 7 < tnN (tnR (tfP l))
      · rw [if_pos h7] at h1; cases h1
      · rw [if_neg h7] at h1 h2
        have hq : tnW (tnR (tfP l)) = 0 := by simpa using h1
        have hp : tnW (tfP l) = 0 := Decidable.byContradiction fun e => by
          have : tnR (tfP l) = [] := by unfold tnR; rw [if_neg e]
          rw [this] at hq
          simp [tnW] at hq
        refine ⟨hf.1, hp, hq, by omega, ?_⟩
        have e1 := tn_canon _ hp
        have e2 := tn_canon _ hq
        have e3 := tf_canon _ hf.1
        rw [h2, List.append_nil] at e2
        rw [hf.2, List.append_nil] at e3
        unfold encL
        rw [← e2, ← e1, ← e3]
    · have hfm : fmL l = [] := by
        by_cases h0 : tfW l = 0
        · exact (fm_more l h0 (fun e => hf ⟨h0, e⟩)).1
        · exact (fm_bad l h0).1
      rw [hfm] at h1
      simp [upB, tnN, tnW, tnR] at h1
  · rintro ⟨h1, h2, h3, h4, h5⟩
    have hv : tnN (tnR (tfP l)) < 2 ^ 64 := tnN_lt _
    have ht : tnN (tfP l) < 2 ^ 64 := tnN_lt _
    have := (enc_back _ _ ht h4).1
    rwa [h5] at this
theorem dc_vals (l : List UInt8) (h : rfOk l) : dcT l = tnN (tfP l) ∧ dcV l = tnN (tnR (tfP l)) ∧ dcE l = 0 := by
  obtain ⟨h1, h2, h3, h4, h5⟩ := h
  have := enc_back _ _ (tnN_lt (tfP l)) h4
  rw [h5] at this
  exact this.2
theorem dc_none (l : List UInt8) (h : ¬ rfOk l) : dcT l = 0 ∧ dcV l = 0 ∧ dcE l = 4 := by
  have : dcOk l = false := by
    cases hd : dcOk l
    · rfl
    · exact absurd ((dcOk_iff l).1 hd) h
  unfold dcT dcV dcE
  rw [this]
  exact ⟨rfl, rfl, rfl⟩
set_option maxHeartbeats 400000 in
theorem check_ref (t v : Int) (w : World) : Calls Try.prog 16 #[.agg #[.int .u64 t, .int .i64 v]] w fun e w' => e = .returned (.int .i64 (chkH v : Nat)) ∧ Below w.heap.size w w' := by
  have HB := Lib.hid ((Below.refl w.heap.size w).alloc (Nat.le_refl _) (.cells #[.int .u64 t, .int .i64 v] 27))
  by_cases h0 : v < 0
  · have HN := Lib.hid (show chkH v = 1 by unfold chkH; rw [if_pos h0])
    go_enter Try.func16, Try.ntmps16
    go_wp2
    go_ret
    exact ⟨by rw [HN.out]; rfl, HB.out⟩
  · have h0' : decide (v < 0) = false := by simpa using h0
    by_cases h1 : 7 < v
    · have HN := Lib.hid (show chkH v = 1 by unfold chkH; rw [if_neg h0, if_pos h1])
      go_enter Try.func16, Try.ntmps16
      go_wp2
      go_ret
      exact ⟨by rw [HN.out]; rfl, HB.out⟩
    · have h1' : decide (7 < v) = false := by simpa using h1
      have HN := Lib.hid (show chkH v = 0 by unfold chkH; rw [if_neg h0, if_neg h1])
      go_enter Try.func16, Try.ntmps16
      go_wp2
      go_ret
      exact ⟨by rw [HN.out]; rfl, HB.out⟩
set_option maxRecDepth 100000 in
set_option maxHeartbeats 1000000 in
theorem file_ref (t v : Nat) (ht : t < 2 ^ 64) (hv : v < 2 ^ 63) (w : World) : Calls Try.prog 23 #[.agg #[.int .u64 (t : Nat), .int .i64 (v : Nat)]] w fun e w' => e = .returned (.string (bs (encL t v))) ∧ Below w.heap.size w w' := by
  have hv2 : v < 2 ^ 64 := by omega
  have t0 : IntKind.u64.wrap (v : Int) = (v : Int) := by rw [IntKind.wrap_u64]; omega
  have G1 := fun w => PackRefNum.number_ref t w ht
  have G2 := fun w => PackRefNum.number_ref v w hv2
  have hl : (num t ++ num v).length ≤ 18 := by
    rw [List.length_append]
    have := num_len t ht
    have := num_len v hv2
    omega
  have HF := fun w => PackFrame.frame_ref (bs (num t ++ num v)) w (by rw [bs_size]; unfold maxLen; omega)
  unfold PackFrame.Framed at HF
  have e1 : PackFrame.frS (bs (num t ++ num v)) = bs (encL t v) := by unfold PackFrame.frS; rw [bs_size, if_neg (by omega), bs_data]; rfl
  have e2 : PackFrame.frW (bs (num t ++ num v)) = 0 := by unfold PackFrame.frW; rw [bs_size, if_neg (by omega)]
  rw [e1, e2] at HF
  rw [← bs_append] at HF
  have hsz : (bs (num t)).size + (bs (num v)).size ≤ 9223372036854775807 := by rw [bs_size, bs_size]; rw [List.length_append] at hl; omega
  have hsz2 : ¬ (9223372036854775807 < (bs (num t)).size + (bs (num v)).size) := by omega
  have hsz3 : (bs (num t)).size + (bs (num v)).size ≤ maxLen := by unfold maxLen; omega
  clear e1 e2 hl
  generalize bs (num t) = sa at *
  generalize bs (num v) = sb at *
  generalize bs (encL t v) = sc at *
  have KB : Hid (∀ z, (z.cell? ⟨w.heap.size, 0, none⟩ = some (.int .u64 (t : Nat)) ∧ z.cell? ⟨w.heap.size, 1, none⟩ = some (.int .i64 (v : Nat)) ∧ Hid (Below w.heap.size w z ∧ w.heap.size + 1 ≤ z.heap.size)) → Below w.heap.size w z) := fun z h => h.2.2.out.1
  have L0 : Hid (∀ z, (z.cell? ⟨w.heap.size, 0, none⟩ = some (.int .u64 (t : Nat)) ∧ z.cell? ⟨w.heap.size, 1, none⟩ = some (.int .i64 (v : Nat)) ∧ Hid (Below w.heap.size w z ∧ w.heap.size + 1 ≤ z.heap.size)) → ∀ z', Below z.heap.size z z' → (z'.cell? ⟨w.heap.size, 0, none⟩ = some (.int .u64 (t : Nat)) ∧ z'.cell? ⟨w.heap.size, 1, none⟩ = some (.int .i64 (v : Nat)) ∧ Hid (Below w.heap.size w z' ∧ w.heap.size + 1 ≤ z'.heap.size))) := by
    intro z h z' hb
    obtain ⟨a0, a1, hS⟩ := h
    have hz := hS.out.2
    exact ⟨(hb.cell (by show w.heap.size < _; omega)).trans a0, (hb.cell (by show w.heap.size < _; omega)).trans a1, hS.out.1.trans (hb.mono (by omega)), by have := hb.size; omega⟩
  have K1 : Hid (∀ z, (z.cell? ⟨w.heap.size, 0, none⟩ = some (.int .u64 (t : Nat)) ∧ z.cell? ⟨w.heap.size, 1, none⟩ = some (.int .i64 (v : Nat)) ∧ Hid (Below w.heap.size w z ∧ w.heap.size + 1 ≤ z.heap.size)) → Calls Try.prog 41 #[.int .u64 (t : Nat)] z fun e z' => e = .returned (.string sa) ∧ (z'.cell? ⟨w.heap.size, 0, none⟩ = some (.int .u64 (t : Nat)) ∧ z'.cell? ⟨w.heap.size, 1, none⟩ = some (.int .i64 (v : Nat)) ∧ Hid (Below w.heap.size w z' ∧ w.heap.size + 1 ≤ z'.heap.size))) := fun z h => (G1 z).mono fun e z' ⟨he, hb⟩ => ⟨he, L0.out z h z' hb⟩
  have K2 : Hid (∀ z, (z.cell? ⟨w.heap.size, 0, none⟩ = some (.int .u64 (t : Nat)) ∧ z.cell? ⟨w.heap.size, 1, none⟩ = some (.int .i64 (v : Nat)) ∧ Hid (Below w.heap.size w z ∧ w.heap.size + 1 ≤ z.heap.size)) → Calls Try.prog 41 #[.int .u64 (v : Nat)] z fun e z' => e = .returned (.string sb) ∧ (z'.cell? ⟨w.heap.size, 0, none⟩ = some (.int .u64 (t : Nat)) ∧ z'.cell? ⟨w.heap.size, 1, none⟩ = some (.int .i64 (v : Nat)) ∧ Hid (Below w.heap.size w z' ∧ w.heap.size + 1 ≤ z'.heap.size))) := fun z h => (G2 z).mono fun e z' ⟨he, hb⟩ => ⟨he, L0.out z h z' hb⟩
  have K3 : Hid (∀ z, (z.cell? ⟨w.heap.size, 0, none⟩ = some (.int .u64 (t : Nat)) ∧ z.cell? ⟨w.heap.size, 1, none⟩ = some (.int .i64 (v : Nat)) ∧ Hid (Below w.heap.size w z ∧ w.heap.size + 1 ≤ z.heap.size)) → Calls Try.prog 40 #[.string (sa ++ sb)] z fun e z' => e = .returned (.tuple #[.string sc, .int .i64 (0 : Nat)]) ∧ (z'.cell? ⟨w.heap.size, 0, none⟩ = some (.int .u64 (t : Nat)) ∧ z'.cell? ⟨w.heap.size, 1, none⟩ = some (.int .i64 (v : Nat)) ∧ Hid (Below w.heap.size w z' ∧ w.heap.size + 1 ≤ z'.heap.size))) := fun z h => (HF z).mono fun e z' ⟨he, hb⟩ => ⟨he, L0.out z h z' hb⟩
  have KD : Hid ((((w.alloc (.cells #[.int .u64 (t : Nat), .int .i64 (v : Nat)] 27)).drew).cell? ⟨w.heap.size, 0, none⟩ = some (.int .u64 (t : Nat)) ∧ ((w.alloc (.cells #[.int .u64 (t : Nat), .int .i64 (v : Nat)] 27)).drew).cell? ⟨w.heap.size, 1, none⟩ = some (.int .i64 (v : Nat)) ∧ Hid (Below w.heap.size w ((w.alloc (.cells #[.int .u64 (t : Nat), .int .i64 (v : Nat)] 27)).drew) ∧ w.heap.size + 1 ≤ ((w.alloc (.cells #[.int .u64 (t : Nat), .int .i64 (v : Nat)] 27)).drew).heap.size))) := by
    refine ⟨by simp [go_sem], by simp [go_sem], ((Below.refl _ _).alloc (Nat.le_refl _) _).drew, by show _ ≤ (w.alloc _).heap.size; simp⟩
  clear G1 G2 HF L0
  go_enter Try.func23, Try.ntmps23
  go_wp2
  go_region_held3 (fun z => z.cell? ⟨w.heap.size, 0, none⟩ = some (.int .u64 (t : Nat)) ∧ z.cell? ⟨w.heap.size, 1, none⟩ = some (.int .i64 (v : Nat)) ∧ Hid (Below w.heap.size w z ∧ w.heap.size + 1 ≤ z.heap.size)) (first | assumption | exact KD.out)
    (first
      | (go_at_call 41; (with_reducible refine (K1.out _ ?_).mono ?_); assumption; rintro e w7 ⟨rfl, hS⟩)
      | (go_at_call 41; (with_reducible refine (K2.out _ ?_).mono ?_); assumption; rintro e w7 ⟨rfl, hS⟩)
      | (go_at_call 40; go_loud ((with_reducible refine (K3.out _ ?_).mono ?_); assumption; rintro e w7 ⟨rfl, hS⟩)))
  all_goals
    go_wp2
    go_ret
    exact ⟨rfl, KB.out _ hS⟩

end Hd
end Go.Proofs.Ytpncflgcfndhmaa

/- THE DOCUMENT's Load of a term and a vote. -/
namespace Go.Proofs.Ytpncflgcfndhmaa
open Go.RowKit Go.Lib Go.Sort
namespace Dk
open PM in
/-- Where the result of Load lies, and that it holds nothing yet. -/
structure Rc (w x : World) : Prop where
  d0 : x.cell? ⟨w.heap.size + 1, 0, none⟩ = some (.int .u64 0)
  d1 : x.cell? ⟨w.heap.size + 1, 1, none⟩ = some (.int .i64 0)
  f0 : x.frozen? ⟨w.heap.size + 1, 0, none⟩ = false
  f1 : x.frozen? ⟨w.heap.size + 1, 1, none⟩ = false
  lt : w.heap.size + 2 ≤ x.heap.size
  below : Below w.heap.size w x
theorem Rc.keep {w x x' : World} (h : Rc w x) (hb : Below x.heap.size x x') : Rc w x' :=
  ⟨(hb.cell (by show w.heap.size + 1 < _; have := h.lt; omega)).trans h.d0, (hb.cell (by show w.heap.size + 1 < _; have := h.lt; omega)).trans h.d1,
   (hb.frozen (p := ⟨w.heap.size + 1, 0, none⟩) (by show w.heap.size + 1 < _; have := h.lt; omega)).trans h.f0, (hb.frozen (p := ⟨w.heap.size + 1, 1, none⟩) (by show w.heap.size + 1 < _; have := h.lt; omega)).trans h.f1,
   Nat.le_trans h.lt hb.size, h.below.trans (hb.mono h.below.size)⟩
theorem Rc.made (w : World) (cs : Array Value) (t : TypeId) : Rc w ((w.alloc (.cells cs t)).alloc (.cells #[.int .u64 0, .int .i64 0] 27)) :=
  ⟨by simp [go_sem], by simp [go_sem], by simp [go_sem], by simp [go_sem], by simp, ((Below.refl _ w).alloc (Nat.le_refl _) _).alloc (by simp) _⟩
theorem Rc.put {w x : World} (h : Rc w x) (u v : Value) : Below w.heap.size w ((x.setCell ⟨w.heap.size + 1, 0, none⟩ u).setCell ⟨w.heap.size + 1, 1, none⟩ v) :=
  bset (bset h.below (by show w.heap.size ≤ w.heap.size + 1; omega) _) (by show w.heap.size ≤ w.heap.size + 1; omega) _
set_option maxRecDepth 100000 in
set_option maxHeartbeats 4000000 in
theorem load_ref (dv : Value) (dn : Bool) (fu : Int) (fs : List Fl) (w : World) (hf : Files w w.heap.size dv fs) :
    Calls Try.prog 10 #[.agg #[dv, .bool dn, .int .i64 fu]] w fun e w' => LoadIs fs dn e ∧ Below w.heap.size w w' := by
  have h1 := fun w hw => read_ref dv dn fu fs nHd w hw
  have HF := Lib.hid hf
  have hfine := hf.fine
  obtain ⟨a, c, rfl, -⟩ := hf
  unfold ReadIs at h1
  have HR := Lib.hid (h1 _ ((HF.out.al (.cells #[.slice a fs.length c, .bool dn, .int .i64 fu] 24)).al (.cells #[.int .u64 0, .int .i64 0] 27)))
  unfold nHd at HR
  have hsz := rdS_size fs dn nHd hfine
  have HRC := Lib.hid (Rc.made w #[.slice a fs.length c, .bool dn, .int .i64 fu] 24)
  clear h1 hfine
  by_cases h0 : rdE fs dn nHd = 0
  · have HNO : Hid (¬ Hd.rfOk (rdS fs dn nHd).data.toList → LoadIs fs dn (.returned (.tuple #[.agg #[.int .u64 0, .int .i64 0], .int .i64 4]))) := by
      intro h
      obtain ⟨e1, e2, e3⟩ := Hd.dc_none _ h
      unfold LoadIs ldT ldV ldE
      rw [if_pos h0, if_pos h0, if_pos h0, e1, e2, e3]; rfl
    have HYES : Hid (Hd.rfOk (rdS fs dn nHd).data.toList → LoadIs fs dn (.returned (.tuple #[.agg #[.int .u64 (PM.tnN (PM.tfP (rdS fs dn nHd).data.toList) : Nat), .int .i64 (PM.tnN (PM.tnR (PM.tfP (rdS fs dn nHd).data.toList)) : Nat)], .int .i64 0]))) := by
      intro h
      obtain ⟨e1, e2, e3⟩ := Hd.dc_vals _ h
      unfold LoadIs ldT ldV ldE
      rw [if_pos h0, if_pos h0, if_pos h0, e1, e2, e3]; rfl
    have h0' : rdE fs dn ⟨#[104, 97, 114, 100]⟩ = 0 := h0
    rw [h0'] at HR
    have e9 : rdS fs dn ⟨#[104, 97, 114, 100]⟩ = rdS fs dn nHd := rfl
    rw [e9] at HR
    clear h0 h0' e9
    generalize rdS fs dn nHd = s at *
    have HT1 := Lib.hid (fun w => PackTakeFrRef.takeFrame_ref s w hsz)
    have hp : (PM.bs (PM.tfP s.data.toList)).size ≤ maxLen := by
      rw [PM.bs_size]
      have := Hd.tfP_len s.data.toList
      have h9 : s.data.toList.length = s.size := rfl
      omega
    have HT2 := Lib.hid (fun w => PackTakeRef.take_ref (PM.bs (PM.tfP s.data.toList)) w hp)
    have hq : (PM.bs (PM.tnR (PM.tfP s.data.toList))).size ≤ maxLen := by
      rw [PM.bs_size] at hp ⊢
      have := PM.tnR_length (PM.tfP s.data.toList)
      omega
    have HT3 := Lib.hid (fun w => PackTakeRef.take_ref (PM.bs (PM.tnR (PM.tfP s.data.toList))) w hq)
    unfold PackTakeFr.TookF at HT1
    unfold PackTakeNum.Took at HT2 HT3
    rw [PM.bs_data] at HT2 HT3
    have hT : PM.tnN (PM.tfP s.data.toList) < 2 ^ 64 := PM.tnN_lt _
    have HFI : Hid (∀ (t v : Nat), t < 2 ^ 64 → v ≤ 7 → ∀ w, Calls Try.prog 23 #[.agg #[.int .u64 (t : Nat), .int .i64 (v : Nat)]] w fun e w' => e = .returned (.string (PM.bs (Hd.encL t v))) ∧ Below w.heap.size w w') := fun t v ht hv w => Hd.file_ref t v ht (by omega) w
    have HSE : Hid (∀ l : List UInt8, l = s.data.toList → PM.bs l = s) := fun l h => by rw [h]; exact PM.bs_of s
    have HSN : Hid (∀ l : List UInt8, ¬ l = s.data.toList → ¬ (PM.bs l).toList = s.toList) := fun l h e => h (by rw [ByteArray.toList_eq, ByteArray.toList_eq, PM.bs_data] at e; exact e)
    unfold Hd.rfOk at HNO HYES
    generalize s.data.toList = ls at *
    generalize PM.tfR ls = rr at *
    generalize PM.tfW ls = w1n at *
    generalize PM.tfP ls = p at *
    generalize PM.tnW p = w2n at *
    generalize PM.tnN p = t at *
    generalize PM.tnR p = q at *
    generalize PM.tnR q = r3 at *
    generalize PM.tnW q = w3n at *
    generalize PM.tnN q = v at *
    clear hp hq hsz
    have HTL := Lib.hid hT
    clear hT
    go_enter Try.func10, Try.ntmps10
    go_wp2_with fail
    refine HR.out.mono ?_
    rintro e w1 ⟨rfl, hb⟩
    have HC1 := Lib.hid (HRC.out.keep hb)
    clear hb
    go_wp2_with fail
    refine (HT1.out _).mono ?_
    rintro e w2 ⟨rfl, hb⟩
    have HC2 := Lib.hid (HC1.out.keep hb)
    clear hb
    go_wp2_with fail
    refine (HT2.out _).mono ?_
    rintro e w3 ⟨rfl, hb⟩
    have HC3 := Lib.hid (HC2.out.keep hb)
    clear hb
    go_wp2_with fail
    refine (HT3.out _).mono ?_
    rintro e w4 ⟨rfl, hb⟩
    have HC4 := Lib.hid (HC3.out.keep hb)
    clear hb
    obtain ⟨d0, d1, f0, f1, hlt, -⟩ := HC4.out
    by_cases hall : w1n = 0 ∧ w2n = 0 ∧ w3n = 0 ∧ v ≤ 7
    · obtain ⟨rfl, rfl, rfl, hv⟩ := hall
      have hv7 : ¬ 7 < (v : Int) := by omega
      have hcv : IntKind.i64.wrap (v : Int) = (v : Int) := by rw [IntKind.wrap_i64]; omega
      have HV := Lib.hid hv
      clear hv
      go_wp2_with fail
      refine (HFI.out t v HTL.out HV.out _).mono ?_
      rintro e w5 ⟨rfl, hb⟩
      have HC5 := Lib.hid ((HC4.out.keep ((Below.refl _ _).alloc (Nat.le_refl _) (.cells #[.int .u64 t, .int .i64 v] 27))).keep hb)
      have m0 : ∀ i, w5.cell? ⟨w4.heap.size, i, none⟩ = #[.int .u64 t, .int .i64 v][i]? := fun i => by rw [hb.cell (by simp)]; simp [go_sem]
      clear hb d0 d1 f0 f1
      obtain ⟨d0, d1, f0, f1, hlt5, -⟩ := HC5.out
      by_cases hq : Hd.encL t v = ls
      · have he := HSE.out _ hq
        have HL := Lib.hid (HYES.out (by first | exact ⟨rfl, rfl, rfl, HV.out, hq⟩ | exact ⟨trivial, trivial, trivial, HV.out, hq⟩ | simp [HV.out, hq]))
        rw [he]
        clear hq he HFI HNO HYES HSE HSN
        go_wp2
        refine Hd.bodyPost_hard rfl (w.heap.size + 1) t v rfl rfl ?_ ?_ ?_
        case refine_1 => go_simp
        case refine_2 => go_simp
        case refine_3 => exact ⟨HL.out, HC5.out.put _ _⟩
      · have he := HSN.out _ hq
        have HL := Lib.hid (HNO.out (by rintro ⟨-, -, -, -, h⟩; exact hq h))
        generalize PM.bs (Hd.encL t v) = se at *
        have he2 : (se.toList == s.toList) = false := by simpa using he
        have he3 : (se.toList != s.toList) = true := by simpa using he
        clear hq HFI HNO HYES HSE HSN
        go_wp2
        refine Hd.bodyPost_hard rfl (w.heap.size + 1) 0 0 rfl rfl ?_ ?_ ?_
        case refine_1 => go_simp
        case refine_2 => go_simp
        case refine_3 => exact ⟨HL.out, HC5.out.put _ _⟩
    · have HL := Lib.hid (HNO.out (by rintro ⟨h1, h2, h3, h4, -⟩; exact hall ⟨h1, h2, h3, h4⟩))
      have hor : ¬ (w1n : Int) = 0 ∨ ¬ (w2n : Int) = 0 ∨ ¬ (w3n : Int) = 0 ∨ 7 < (v : Int) := by omega
      clear HNO HYES hall HFI HSE HSN HT1 HT2 HT3 HR
      by_cases a1 : w1n = 0
      · subst a1
        by_cases a2 : w2n = 0
        · subst a2
          by_cases a3 : w3n = 0
          · subst a3
            have h7 : (7 : Int) < (v : Int) := by omega
            clear hor
            go_wp2
            refine Hd.bodyPost_hard rfl (w.heap.size + 1) 0 0 rfl rfl ?_ ?_ ?_
            case refine_1 => go_simp
            case refine_2 => go_simp
            case refine_3 => exact ⟨HL.out, HC4.out.put _ _⟩
          · have n3 : ((w3n : Int) != 0) = true := by simp; omega
            clear hor
            go_wp2
            refine Hd.bodyPost_hard rfl (w.heap.size + 1) 0 0 rfl rfl ?_ ?_ ?_
            case refine_1 => go_simp
            case refine_2 => go_simp
            case refine_3 => exact ⟨HL.out, HC4.out.put _ _⟩
        · have n2 : ((w2n : Int) != 0) = true := by simp; omega
          clear hor
          go_wp2
          refine Hd.bodyPost_hard rfl (w.heap.size + 1) 0 0 rfl rfl ?_ ?_ ?_
          case refine_1 => go_simp
          case refine_2 => go_simp
          case refine_3 => exact ⟨HL.out, HC4.out.put _ _⟩
      · have n1 : ((w1n : Int) != 0) = true := by simp; omega
        clear hor
        go_wp2
        refine Hd.bodyPost_hard rfl (w.heap.size + 1) 0 0 rfl rfl ?_ ?_ ?_
        case refine_1 => go_simp
        case refine_2 => go_simp
        case refine_3 => exact ⟨HL.out, HC4.out.put _ _⟩
  · by_cases h6 : rdE fs dn nHd = 6
    · have HN := Lib.hid (LoadIs.none_ h6)
      have h6' : rdE fs dn ⟨#[104, 97, 114, 100]⟩ = 6 := h6
      rw [h6'] at HR
      clear h0 h6 h6' hsz
      generalize rdS fs dn ⟨#[104, 97, 114, 100]⟩ = s at *
      go_enter Try.func10, Try.ntmps10
      go_wp2_with fail
      refine HR.out.mono ?_
      rintro e w1 ⟨rfl, hb⟩
      have HC1 := Lib.hid (HRC.out.keep hb)
      clear hb
      obtain ⟨d0, d1, f0, f1, hlt, -⟩ := HC1.out
      go_wp2
      refine Hd.bodyPost_hard rfl (w.heap.size + 1) 0 0 rfl rfl ?_ ?_ ?_
      case refine_1 => go_simp
      case refine_2 => go_simp
      case refine_3 => exact ⟨HN.out, HC1.out.put _ _⟩
    · have HN := Lib.hid (LoadIs.bad h6 h0)
      have e9 : rdE fs dn ⟨#[104, 97, 114, 100]⟩ = rdE fs dn nHd := rfl
      rw [e9] at HR
      have h0' : ¬ ((rdE fs dn nHd : Int) = 0) := by omega
      have h6' : ¬ ((rdE fs dn nHd : Int) = 6) := by omega
      have h0'' : (((rdE fs dn nHd : Nat) : Int) != 0) = true := by simp; omega
      have h6'' : (((rdE fs dn nHd : Nat) : Int) == 6) = false := by simp; omega
      clear h0 h6 hsz e9
      generalize rdS fs dn ⟨#[104, 97, 114, 100]⟩ = s at *
      generalize rdE fs dn nHd = re at *
      go_enter Try.func10, Try.ntmps10
      go_wp2_with fail
      refine HR.out.mono ?_
      rintro e w1 ⟨rfl, hb⟩
      have HC1 := Lib.hid (HRC.out.keep hb)
      clear hb
      obtain ⟨d0, d1, f0, f1, hlt, -⟩ := HC1.out
      go_wp2
      refine Hd.bodyPost_hard rfl (w.heap.size + 1) 0 0 rfl rfl ?_ ?_ ?_
      case refine_1 => go_simp
      case refine_2 => go_simp
      case refine_3 => exact ⟨HN.out, HC1.out.put _ _⟩
end Dk
end Go.Proofs.Ytpncflgcfndhmaa

/- THE DOCUMENT's Put: a file's content by way of another file. -/
namespace Go.Proofs.Ytpncflgcfndhmaa
open Go.RowKit Go.Lib Go.Sort
namespace Dk
/-- Where Put stands: the disk in its box, the result's box. -/
structure Pt (w x : World) (v : Value) (dn : Bool) (fu : Int) (fs : List Fl) : Prop where
  dx : Dx w.heap.size x v dn fu
  rx : Dx (w.heap.size + 1) x (.slice none 0 0) false 0
  files : Files x x.heap.size v fs
  below : Below w.heap.size w x
  lt : w.heap.size + 2 ≤ x.heap.size
theorem Pt.call {w x x' : World} {v : Value} {dn : Bool} {fu : Int} {fs : List Fl} (h : Pt w x v dn fu fs) (hb : Below x.heap.size x x') : Pt w x' v dn fu fs :=
  ⟨h.dx.keep hb (by have := h.lt; omega), h.rx.keep hb (by have := h.lt; omega), h.files.on hb hb.size, h.below.trans (hb.mono h.below.size), Nat.le_trans h.lt hb.size⟩
theorem Pt.store {w x : World} {v v2 : Value} {dn dn2 : Bool} {fu fu2 : Int} {fs fs2 : List Fl} (h : Pt w x v dn fu fs) (hf : Files x x.heap.size v2 fs2) (hh : Hi (w.heap.size + 2) v2) :
    Pt w (((x.setCell ⟨w.heap.size, 0, none⟩ v2).setCell ⟨w.heap.size, 1, none⟩ (.bool dn2)).setCell ⟨w.heap.size, 2, none⟩ (.int .i64 fu2)) v2 dn2 fu2 fs2 :=
  ⟨h.dx.st, ((h.rx.far (by omega)).far (by omega)).far (by omega), hf.put3 hh (by omega), below3 h.below (Nat.le_refl _), by have := h.lt; simpa using this⟩
/-- What Put answers. -/
def PutIs (w : World) (o : Out) (e : Ending) (w' : World) : Prop := ∃ a c, e = .returned (.tuple #[.agg #[.slice a o.fs.length c, .bool o.dn, .int .i64 o.fu], .int .i64 (o.r : Nat)]) ∧ Files w' w'.heap.size (.slice a o.fs.length c) o.fs ∧ Hi w.heap.size (.slice a o.fs.length c) ∧ Below w.heap.size w w'
theorem Pt.fin {w x : World} {a : Option Addr} {c : Nat} {dn : Bool} {fu : Int} {fs : List Fl} {r : Nat} {o : Out} (h : Pt w x (.slice a fs.length c) dn fu fs) (hh : Hi (w.heap.size + 2) (.slice a fs.length c)) (ho : o = ⟨fs, dn, fu, r⟩) :
    PutIs w o (.returned (.tuple #[.agg #[.slice a fs.length c, .bool dn, .int .i64 fu], .int .i64 (r : Nat)])) (((x.setCell ⟨w.heap.size + 1, 0, none⟩ (.slice a fs.length c)).setCell ⟨w.heap.size + 1, 1, none⟩ (.bool dn)).setCell ⟨w.heap.size + 1, 2, none⟩ (.int .i64 fu)) := by
  subst ho
  exact ⟨a, c, rfl, h.files.put3 hh (by omega), hh.le (by omega), below3 h.below (by omega)⟩
set_option maxRecDepth 100000 in
set_option maxHeartbeats 8000000 in
theorem put_drop (dv : Value) (dn : Bool) (fu : Int) (fs : List Fl) (da : ByteArray) (o : Out) (s : ByteArray) (re : Nat) (hre : re = 0)
    (f1 : List Fl) (dn1 : Bool) (fu1 : Int) (r1 : Nat) (hF1 : Fine f1 ∧ f1.length ≤ 4611686018427387904)
    (f2 : List Fl) (dn2 : Bool) (fu2 : Int) (r2 : Nat) (hF2 : Fine f2 ∧ f2.length ≤ 4611686018427387904)
    (f3 : List Fl) (dn3 : Bool) (fu3 : Int) (r3 : Nat) (hF3 : Fine f3 ∧ f3.length ≤ 4611686018427387904)
    (f4 : List Fl) (dn4 : Bool) (fu4 : Int) (r4 : Nat) (hF4 : Fine f4 ∧ f4.length ≤ 4611686018427387904)
    (HR : ∀ x v, Files x x.heap.size v fs → Calls Try.prog 20 #[.agg #[v, .bool dn, .int .i64 fu], .string ⟨#[104, 97, 114, 100, 46, 116, 109, 112]⟩] x fun e w' => e = .returned (.tuple #[.string s, .int .i64 (re : Nat)]) ∧ Below x.heap.size x w')
    (H1 : (∀ x v, Files x x.heap.size v fs → Calls Try.prog 52 #[.agg #[v, .bool dn, .int .i64 fu], .string ⟨#[104, 97, 114, 100, 46, 116, 109, 112]⟩] x (DoIs x f1 dn1 fu1 r1)))
    (H2 : r1 = 0 → (∀ x v, Files x x.heap.size v f1 → Calls Try.prog 53 #[.agg #[v, .bool dn1, .int .i64 fu1], .string ⟨#[104, 97, 114, 100, 46, 116, 109, 112]⟩, .string da] x (DoIs x f2 dn2 fu2 r2)))
    (H3 : r1 = 0 → r2 = 0 → (∀ x v, Files x x.heap.size v f2 → Calls Try.prog 54 #[.agg #[v, .bool dn2, .int .i64 fu2], .string ⟨#[104, 97, 114, 100, 46, 116, 109, 112]⟩] x (DoIs x f3 dn3 fu3 r3)))
    (H4 : r1 = 0 → r2 = 0 → r3 = 0 → (∀ x v, Files x x.heap.size v f3 → Calls Try.prog 55 #[.agg #[v, .bool dn3, .int .i64 fu3], .string ⟨#[104, 97, 114, 100, 46, 116, 109, 112]⟩, .string ⟨#[104, 97, 114, 100]⟩] x (DoIs x f4 dn4 fu4 r4)))
    (E1 : ¬ r1 = 0 → o = ⟨f1, dn1, fu1, r1⟩)
    (E2 : r1 = 0 → ¬ r2 = 0 → o = ⟨f2, dn2, fu2, r2⟩)
    (E3 : r1 = 0 → r2 = 0 → ¬ r3 = 0 → o = ⟨f3, dn3, fu3, r3⟩)
    (E4 : r1 = 0 → r2 = 0 → r3 = 0 → o = ⟨f4, dn4, fu4, r4⟩)
    (w : World) (hf : Files w w.heap.size dv fs) :
    Calls Try.prog 29 #[.agg #[dv, .bool dn, .int .i64 fu], .string ⟨#[104, 97, 114, 100]⟩, .string da] w (PutIs w o) := by
  have HF := Lib.hid hf
  obtain ⟨a, c, rfl⟩ := files_slice hf
  have HRR := Lib.hid HR
  have K1 := Lib.hid H1
  have M1 := Lib.hid E1
  have FF1 := Lib.hid hF1
  have K2 := Lib.hid H2
  have M2 := Lib.hid E2
  have FF2 := Lib.hid hF2
  have K3 := Lib.hid H3
  have M3 := Lib.hid E3
  have FF3 := Lib.hid hF3
  have K4 := Lib.hid H4
  have M4 := Lib.hid E4
  have FF4 := Lib.hid hF4
  have HP0 : Hid (Pt w ((w.alloc (.cells #[.slice a fs.length c, .bool dn, .int .i64 fu] 24)).alloc (.cells #[.slice none 0 0, .bool false, .int .i64 0] 24)) (.slice a fs.length c) dn fu fs) := by
    refine ⟨?_, ?_, (HF.out.al _).al _, ((Below.refl _ w).alloc (Nat.le_refl _) _).alloc (by simp) _, by simp⟩ <;> (constructor <;> simp [go_sem])
  clear hf HR H1 E1 hF1 H2 E2 hF2 H3 E3 hF3 H4 E4 hF4
  generalize hn : fs.length = n at *
  clear hn
  unfold PutIs
  go_enter Try.func29, Try.ntmps29
  go_wp2_with fail
  refine (HRR.out _ _ HP0.out.files).mono ?_
  rintro e w1 ⟨rfl, hb⟩
  have HP := Lib.hid (HP0.out.call hb)
  obtain ⟨d0, d1, d2, d3, d4, d5⟩ := HP.out.dx
  obtain ⟨x0, x1, x2, x3, x4, x5⟩ := HP.out.rx
  clear hb
  subst hre
  go_wp2_with fail
  refine (K1.out _ _ HP.out.files).mono ?_
  intro e w2 hd
  obtain ⟨v', rfl, ho, hb⟩ := hd
  obtain ⟨a1, c1, rfl⟩ := ho.slice
  have hh1 : Hi (w.heap.size + 2) (.slice a1 f1.length c1) := ho.hi.le (by have := HP.out.lt; omega)
  have HI1 := Lib.hid hh1
  have HP1 := Lib.hid ((HP.out.call hb).store (dn2 := dn1) (fu2 := fu1) (ho.files FF1.out.1 FF1.out.2) hh1)
  clear d0 d1 d2 d3 d4 d5 x0 x1 x2 x3 x4 x5
  obtain ⟨d0, d1, d2, d3, d4, d5⟩ := (HP.out.call hb).dx
  obtain ⟨x0, x1, x2, x3, x4, x5⟩ := (HP.out.call hb).rx
  clear hb ho hh1
  by_cases hz1 : ¬ r1 = 0
  · have hrr : ¬ (r1 : Int) = 0 := by omega
    have HE := Lib.hid (M1.out (by first | exact hz1 | assumption))
    go_wp2
    refine bodyPost_disk rfl (w.heap.size + 1) (.slice a1 f1.length c1) dn1 fu1 rfl rfl ?_ ?_ ?_ ?_
    case refine_1 => go_simp
    case refine_2 => go_simp
    case refine_3 => go_simp
    case refine_4 => exact HP1.out.fin HI1.out HE.out
  have hz1' : r1 = 0 := Decidable.byContradiction hz1
  clear hz1
  subst hz1'
  go_wp2_with fail
  refine (K2.out (by first | rfl | trivial | exact hz1) _ _ HP1.out.files).mono ?_
  intro e w3 hd
  obtain ⟨v', rfl, ho, hb⟩ := hd
  obtain ⟨a2, c2, rfl⟩ := ho.slice
  have hh2 : Hi (w.heap.size + 2) (.slice a2 f2.length c2) := ho.hi.le (by have := HP1.out.lt; omega)
  have HI2 := Lib.hid hh2
  have HP2 := Lib.hid ((HP1.out.call hb).store (dn2 := dn2) (fu2 := fu2) (ho.files FF2.out.1 FF2.out.2) hh2)
  clear d0 d1 d2 d3 d4 d5 x0 x1 x2 x3 x4 x5
  obtain ⟨d0, d1, d2, d3, d4, d5⟩ := (HP1.out.call hb).dx
  obtain ⟨x0, x1, x2, x3, x4, x5⟩ := (HP1.out.call hb).rx
  clear hb ho hh2
  by_cases hz2 : ¬ r2 = 0
  · have hrr : ¬ (r2 : Int) = 0 := by omega
    have HE := Lib.hid (M2.out (by first | rfl | trivial | exact hz1) (by first | exact hz2 | assumption))
    go_wp2
    refine bodyPost_disk rfl (w.heap.size + 1) (.slice a2 f2.length c2) dn2 fu2 rfl rfl ?_ ?_ ?_ ?_
    case refine_1 => go_simp
    case refine_2 => go_simp
    case refine_3 => go_simp
    case refine_4 => exact HP2.out.fin HI2.out HE.out
  have hz2' : r2 = 0 := Decidable.byContradiction hz2
  clear hz2
  subst hz2'
  go_wp2_with fail
  refine (K3.out (by first | rfl | trivial | exact hz1) (by first | rfl | trivial | exact hz2) _ _ HP2.out.files).mono ?_
  intro e w4 hd
  obtain ⟨v', rfl, ho, hb⟩ := hd
  obtain ⟨a3, c3, rfl⟩ := ho.slice
  have hh3 : Hi (w.heap.size + 2) (.slice a3 f3.length c3) := ho.hi.le (by have := HP2.out.lt; omega)
  have HI3 := Lib.hid hh3
  have HP3 := Lib.hid ((HP2.out.call hb).store (dn2 := dn3) (fu2 := fu3) (ho.files FF3.out.1 FF3.out.2) hh3)
  clear d0 d1 d2 d3 d4 d5 x0 x1 x2 x3 x4 x5
  obtain ⟨d0, d1, d2, d3, d4, d5⟩ := (HP2.out.call hb).dx
  obtain ⟨x0, x1, x2, x3, x4, x5⟩ := (HP2.out.call hb).rx
  clear hb ho hh3
  by_cases hz3 : ¬ r3 = 0
  · have hrr : ¬ (r3 : Int) = 0 := by omega
    have HE := Lib.hid (M3.out (by first | rfl | trivial | exact hz1) (by first | rfl | trivial | exact hz2) (by first | exact hz3 | assumption))
    go_wp2
    refine bodyPost_disk rfl (w.heap.size + 1) (.slice a3 f3.length c3) dn3 fu3 rfl rfl ?_ ?_ ?_ ?_
    case refine_1 => go_simp
    case refine_2 => go_simp
    case refine_3 => go_simp
    case refine_4 => exact HP3.out.fin HI3.out HE.out
  have hz3' : r3 = 0 := Decidable.byContradiction hz3
  clear hz3
  subst hz3'
  go_wp2_with fail
  refine (K4.out (by first | rfl | trivial | exact hz1) (by first | rfl | trivial | exact hz2) (by first | rfl | trivial | exact hz3) _ _ HP3.out.files).mono ?_
  intro e w5 hd
  obtain ⟨v', rfl, ho, hb⟩ := hd
  obtain ⟨a4, c4, rfl⟩ := ho.slice
  have hh4 : Hi (w.heap.size + 2) (.slice a4 f4.length c4) := ho.hi.le (by have := HP3.out.lt; omega)
  have HI4 := Lib.hid hh4
  have HP4 := Lib.hid ((HP3.out.call hb).store (dn2 := dn4) (fu2 := fu4) (ho.files FF4.out.1 FF4.out.2) hh4)
  clear d0 d1 d2 d3 d4 d5 x0 x1 x2 x3 x4 x5
  obtain ⟨d0, d1, d2, d3, d4, d5⟩ := (HP3.out.call hb).dx
  obtain ⟨x0, x1, x2, x3, x4, x5⟩ := (HP3.out.call hb).rx
  clear hb ho hh4
  have HE := Lib.hid (M4.out (by first | rfl | trivial | exact hz1) (by first | rfl | trivial | exact hz2) (by first | rfl | trivial | exact hz3))
  go_wp2
  refine bodyPost_disk rfl (w.heap.size + 1) (.slice a4 f4.length c4) dn4 fu4 rfl rfl ?_ ?_ ?_ ?_
  case refine_1 => go_simp
  case refine_2 => go_simp
  case refine_3 => go_simp
  case refine_4 => exact HP4.out.fin HI4.out HE.out
set_option maxRecDepth 100000 in
set_option maxHeartbeats 8000000 in
theorem put_skip (dv : Value) (dn : Bool) (fu : Int) (fs : List Fl) (da : ByteArray) (o : Out) (s : ByteArray) (re : Nat) (hre : ¬ re = 0)
    (f2 : List Fl) (dn2 : Bool) (fu2 : Int) (r2 : Nat) (hF2 : Fine f2 ∧ f2.length ≤ 4611686018427387904)
    (f3 : List Fl) (dn3 : Bool) (fu3 : Int) (r3 : Nat) (hF3 : Fine f3 ∧ f3.length ≤ 4611686018427387904)
    (f4 : List Fl) (dn4 : Bool) (fu4 : Int) (r4 : Nat) (hF4 : Fine f4 ∧ f4.length ≤ 4611686018427387904)
    (HR : ∀ x v, Files x x.heap.size v fs → Calls Try.prog 20 #[.agg #[v, .bool dn, .int .i64 fu], .string ⟨#[104, 97, 114, 100, 46, 116, 109, 112]⟩] x fun e w' => e = .returned (.tuple #[.string s, .int .i64 (re : Nat)]) ∧ Below x.heap.size x w')
    (H2 : (∀ x v, Files x x.heap.size v fs → Calls Try.prog 53 #[.agg #[v, .bool dn, .int .i64 fu], .string ⟨#[104, 97, 114, 100, 46, 116, 109, 112]⟩, .string da] x (DoIs x f2 dn2 fu2 r2)))
    (H3 : r2 = 0 → (∀ x v, Files x x.heap.size v f2 → Calls Try.prog 54 #[.agg #[v, .bool dn2, .int .i64 fu2], .string ⟨#[104, 97, 114, 100, 46, 116, 109, 112]⟩] x (DoIs x f3 dn3 fu3 r3)))
    (H4 : r2 = 0 → r3 = 0 → (∀ x v, Files x x.heap.size v f3 → Calls Try.prog 55 #[.agg #[v, .bool dn3, .int .i64 fu3], .string ⟨#[104, 97, 114, 100, 46, 116, 109, 112]⟩, .string ⟨#[104, 97, 114, 100]⟩] x (DoIs x f4 dn4 fu4 r4)))
    (E2 : ¬ r2 = 0 → o = ⟨f2, dn2, fu2, r2⟩)
    (E3 : r2 = 0 → ¬ r3 = 0 → o = ⟨f3, dn3, fu3, r3⟩)
    (E4 : r2 = 0 → r3 = 0 → o = ⟨f4, dn4, fu4, r4⟩)
    (w : World) (hf : Files w w.heap.size dv fs) :
    Calls Try.prog 29 #[.agg #[dv, .bool dn, .int .i64 fu], .string ⟨#[104, 97, 114, 100]⟩, .string da] w (PutIs w o) := by
  have HF := Lib.hid hf
  obtain ⟨a, c, rfl⟩ := files_slice hf
  have HRR := Lib.hid HR
  have K2 := Lib.hid H2
  have M2 := Lib.hid E2
  have FF2 := Lib.hid hF2
  have K3 := Lib.hid H3
  have M3 := Lib.hid E3
  have FF3 := Lib.hid hF3
  have K4 := Lib.hid H4
  have M4 := Lib.hid E4
  have FF4 := Lib.hid hF4
  have HP0 : Hid (Pt w ((w.alloc (.cells #[.slice a fs.length c, .bool dn, .int .i64 fu] 24)).alloc (.cells #[.slice none 0 0, .bool false, .int .i64 0] 24)) (.slice a fs.length c) dn fu fs) := by
    refine ⟨?_, ?_, (HF.out.al _).al _, ((Below.refl _ w).alloc (Nat.le_refl _) _).alloc (by simp) _, by simp⟩ <;> (constructor <;> simp [go_sem])
  clear hf HR H2 E2 hF2 H3 E3 hF3 H4 E4 hF4
  generalize hn : fs.length = n at *
  clear hn
  unfold PutIs
  go_enter Try.func29, Try.ntmps29
  go_wp2_with fail
  refine (HRR.out _ _ HP0.out.files).mono ?_
  rintro e w1 ⟨rfl, hb⟩
  have HP := Lib.hid (HP0.out.call hb)
  obtain ⟨d0, d1, d2, d3, d4, d5⟩ := HP.out.dx
  obtain ⟨x0, x1, x2, x3, x4, x5⟩ := HP.out.rx
  clear hb
  have hre2 : ¬ (re : Int) = 0 := by omega
  go_wp2_with fail
  refine (K2.out _ _ HP.out.files).mono ?_
  intro e w3 hd
  obtain ⟨v', rfl, ho, hb⟩ := hd
  obtain ⟨a2, c2, rfl⟩ := ho.slice
  have hh2 : Hi (w.heap.size + 2) (.slice a2 f2.length c2) := ho.hi.le (by have := HP.out.lt; omega)
  have HI2 := Lib.hid hh2
  have HP2 := Lib.hid ((HP.out.call hb).store (dn2 := dn2) (fu2 := fu2) (ho.files FF2.out.1 FF2.out.2) hh2)
  clear d0 d1 d2 d3 d4 d5 x0 x1 x2 x3 x4 x5
  obtain ⟨d0, d1, d2, d3, d4, d5⟩ := (HP.out.call hb).dx
  obtain ⟨x0, x1, x2, x3, x4, x5⟩ := (HP.out.call hb).rx
  clear hb ho hh2
  by_cases hz2 : ¬ r2 = 0
  · have hrr : ¬ (r2 : Int) = 0 := by omega
    have HE := Lib.hid (M2.out (by first | exact hz2 | assumption))
    go_wp2
    refine bodyPost_disk rfl (w.heap.size + 1) (.slice a2 f2.length c2) dn2 fu2 rfl rfl ?_ ?_ ?_ ?_
    case refine_1 => go_simp
    case refine_2 => go_simp
    case refine_3 => go_simp
    case refine_4 => exact HP2.out.fin HI2.out HE.out
  have hz2' : r2 = 0 := Decidable.byContradiction hz2
  clear hz2
  subst hz2'
  go_wp2_with fail
  refine (K3.out (by first | rfl | trivial | exact hz2) _ _ HP2.out.files).mono ?_
  intro e w4 hd
  obtain ⟨v', rfl, ho, hb⟩ := hd
  obtain ⟨a3, c3, rfl⟩ := ho.slice
  have hh3 : Hi (w.heap.size + 2) (.slice a3 f3.length c3) := ho.hi.le (by have := HP2.out.lt; omega)
  have HI3 := Lib.hid hh3
  have HP3 := Lib.hid ((HP2.out.call hb).store (dn2 := dn3) (fu2 := fu3) (ho.files FF3.out.1 FF3.out.2) hh3)
  clear d0 d1 d2 d3 d4 d5 x0 x1 x2 x3 x4 x5
  obtain ⟨d0, d1, d2, d3, d4, d5⟩ := (HP2.out.call hb).dx
  obtain ⟨x0, x1, x2, x3, x4, x5⟩ := (HP2.out.call hb).rx
  clear hb ho hh3
  by_cases hz3 : ¬ r3 = 0
  · have hrr : ¬ (r3 : Int) = 0 := by omega
    have HE := Lib.hid (M3.out (by first | rfl | trivial | exact hz2) (by first | exact hz3 | assumption))
    go_wp2
    refine bodyPost_disk rfl (w.heap.size + 1) (.slice a3 f3.length c3) dn3 fu3 rfl rfl ?_ ?_ ?_ ?_
    case refine_1 => go_simp
    case refine_2 => go_simp
    case refine_3 => go_simp
    case refine_4 => exact HP3.out.fin HI3.out HE.out
  have hz3' : r3 = 0 := Decidable.byContradiction hz3
  clear hz3
  subst hz3'
  go_wp2_with fail
  refine (K4.out (by first | rfl | trivial | exact hz2) (by first | rfl | trivial | exact hz3) _ _ HP3.out.files).mono ?_
  intro e w5 hd
  obtain ⟨v', rfl, ho, hb⟩ := hd
  obtain ⟨a4, c4, rfl⟩ := ho.slice
  have hh4 : Hi (w.heap.size + 2) (.slice a4 f4.length c4) := ho.hi.le (by have := HP3.out.lt; omega)
  have HI4 := Lib.hid hh4
  have HP4 := Lib.hid ((HP3.out.call hb).store (dn2 := dn4) (fu2 := fu4) (ho.files FF4.out.1 FF4.out.2) hh4)
  clear d0 d1 d2 d3 d4 d5 x0 x1 x2 x3 x4 x5
  obtain ⟨d0, d1, d2, d3, d4, d5⟩ := (HP3.out.call hb).dx
  obtain ⟨x0, x1, x2, x3, x4, x5⟩ := (HP3.out.call hb).rx
  clear hb ho hh4
  have HE := Lib.hid (M4.out (by first | rfl | trivial | exact hz2) (by first | rfl | trivial | exact hz3))
  go_wp2
  refine bodyPost_disk rfl (w.heap.size + 1) (.slice a4 f4.length c4) dn4 fu4 rfl rfl ?_ ?_ ?_ ?_
  case refine_1 => go_simp
  case refine_2 => go_simp
  case refine_3 => go_simp
  case refine_4 => exact HP4.out.fin HI4.out HE.out
end Dk
end Go.Proofs.Ytpncflgcfndhmaa

/- THE DOCUMENT's Put, whole: what the changes of a rewrite come to. -/
namespace Go.Proofs.Ytpncflgcfndhmaa
open Go.RowKit Go.Lib Go.Sort
namespace Dk
/-- What stands between the changes of a rewrite, at any disk. -/
theorem seq_fit (fs : List Fl) (dn : Bool) (fu : Int) (da : ByteArray) (hda : da.size ≤ 24) (hfine : Fine fs) (h40 : fs.length * 40 ≤ 140737488355328) (hs : ∀ f ∈ fs, f.da.size ≤ 140737488355328) (hlo : -9223372036854775808 ≤ fu) (hhi : fu ≤ 9223372036854775807) :
    ∀ k, k ≤ 4 → Inv da.size (seqO nH nT da fs dn fu k) ∧ (seqO nH nT da fs dn fu k).fs.length * 40 ≤ 140737488355328 := by
  have hi0 : Inv da.size ⟨fs, dn, fu, 0⟩ := ⟨hlo, hhi, hfine, by show fs.length ≤ _; omega, fun f hf => by have := hs f hf; omega⟩
  by_cases h : chkN fs ≠ 0 ∨ dn = true
  · obtain ⟨o, hr, ho, hk⟩ := seq_wrong da fs dn fu h
    have hio : Inv da.size o ∧ o.fs.length * 40 ≤ 140737488355328 := by
      rcases ho with rfl | rfl
      · exact ⟨⟨by show (-9223372036854775808 : Int) ≤ 0; omega, by show (0 : Int) ≤ 9223372036854775807; omega, (fun f hf => by cases hf), by show (0 : Nat) ≤ _; omega, (fun f hf => by cases hf)⟩, by show 0 * 40 ≤ _; omega⟩
      · exact ⟨⟨hlo, hhi, hfine, by show fs.length ≤ _; omega, fun f hf => by have := hs f hf; omega⟩, h40⟩
    intro k hk4
    by_cases h0 : k = 0
    · subst h0; exact ⟨hi0, h40⟩
    · rw [hk k (by omega)]; exact hio
  · have h0 : chkN fs = 0 := Decidable.byContradiction fun e => h (.inl e)
    have hd : dn = false := by cases dn; rfl; exact absurd (.inr rfl) h
    subst hd
    obtain ⟨h1, h2, h3, h4⟩ := sq_all 140737488355328 (by omega) fs da hda fu h0 hs hlo hhi
    have hq : ∀ k o, Sq 140737488355328 fs da k o → Inv da.size o ∧ o.fs.length * 40 ≤ 140737488355328 := fun k o h => ⟨h.inv (by omega) hda, by have := (chk_fine _ h.chk).1; omega⟩
    intro k hk
    have h5 : k = 0 ∨ k = 1 ∨ k = 2 ∨ k = 3 ∨ k = 4 := by omega
    rcases h5 with rfl | rfl | rfl | rfl | rfl
    · exact ⟨hi0, h40⟩
    · exact hq _ _ h1
    · exact hq _ _ h2
    · exact hq _ _ h3
    · exact hq _ _ h4
theorem seq_next (da : ByteArray) (fs : List Fl) (dn : Bool) (fu : Int) (k : Nat) (h : (seqO nH nT da fs dn fu k).r = 0) : seqO nH nT da fs dn fu (k + 1) = stp nH nT da k (seqO nH nT da fs dn fu k).fs (seqO nH nT da fs dn fu k).dn (seqO nH nT da fs dn fu k).fu := (seq_succ ..).trans (thenO_ok h)
theorem seq_at (da : ByteArray) (fs : List Fl) (dn : Bool) (fu : Int) (k : Nat) (hk : k ≤ 4) (h : ¬ (seqO nH nT da fs dn fu k).r = 0) : seqO nH nT da fs dn fu 4 = seqO nH nT da fs dn fu k := by
  obtain ⟨j, e⟩ : ∃ j, 4 = k + j := ⟨4 - k, by omega⟩
  rw [show seqO nH nT da fs dn fu 4 = seqO nH nT da fs dn fu (k + j) by rw [← e]]
  exact seq_stop nH nT da fs dn fu k h j
theorem out_eta (o : Out) : o = ⟨o.fs, o.dn, o.fu, o.r⟩ := rfl
theorem seq_at2 (da : ByteArray) (fs : List Fl) (dn : Bool) (fu : Int) (k : Nat) (hk : k ≤ 4) (h : ¬ (seqO nH nT da fs dn fu k).r = 0) : seqO nH nT da fs dn fu 4 = ⟨(seqO nH nT da fs dn fu k).fs, (seqO nH nT da fs dn fu k).dn, (seqO nH nT da fs dn fu k).fu, (seqO nH nT da fs dn fu k).r⟩ := (seq_at da fs dn fu k hk h).trans (out_eta _)
set_option maxHeartbeats 2000000 in
theorem put_ref (dv : Value) (dn : Bool) (fu : Int) (fs : List Fl) (da : ByteArray) (hda : da.size ≤ 24) (h40 : fs.length * 40 ≤ 140737488355328) (hs : ∀ f ∈ fs, f.da.size ≤ 140737488355328) (hlo : -9223372036854775808 ≤ fu) (hhi : fu ≤ 9223372036854775807) (w : World) (hf : Files w w.heap.size dv fs) :
    Calls Try.prog 29 #[.agg #[dv, .bool dn, .int .i64 fu], .string ⟨#[104, 97, 114, 100]⟩, .string da] w (PutIs w (seqO nH nT da fs dn fu 4)) := by
  have hfine := hf.fine
  have hfit := seq_fit fs dn fu da hda hfine h40 hs hlo hhi
  have HR : ∀ x v, Files x x.heap.size v fs → Calls Try.prog 20 #[.agg #[v, .bool dn, .int .i64 fu], .string ⟨#[104, 97, 114, 100, 46, 116, 109, 112]⟩] x fun e w' => e = .returned (.tuple #[.string (rdS fs dn nT), .int .i64 (rdE fs dn nT : Nat)]) ∧ Below x.heap.size x w' := fun x v hx => read_ref v dn fu fs nT x hx
  have F : ∀ k, k ≤ 4 → Fine (seqO nH nT da fs dn fu k).fs ∧ (seqO nH nT da fs dn fu k).fs.length ≤ 4611686018427387904 := fun k hk => ⟨(hfit k hk).1.fine, (hfit k hk).1.len⟩
  have HA : (seqO nH nT da fs dn fu 1).r = 0 → (∀ x v, Files x x.heap.size v (seqO nH nT da fs dn fu 1).fs → Calls Try.prog 53 #[.agg #[v, .bool (seqO nH nT da fs dn fu 1).dn, .int .i64 (seqO nH nT da fs dn fu 1).fu], .string ⟨#[104, 97, 114, 100, 46, 116, 109, 112]⟩, .string da] x (DoIs x (seqO nH nT da fs dn fu 2).fs (seqO nH nT da fs dn fu 2).dn (seqO nH nT da fs dn fu 2).fu (seqO nH nT da fs dn fu 2).r)) := by
    intro h1 x v hx
    obtain ⟨hi, hl⟩ := hfit 1 (by omega)
    have e := seq_next da fs dn fu 1 h1
    rw [e]
    exact add_ref v _ _ _ nT da hi.lo hi.hi hl (by omega) hi.room x hx
  have HSy : (seqO nH nT da fs dn fu 2).r = 0 → (∀ x v, Files x x.heap.size v (seqO nH nT da fs dn fu 2).fs → Calls Try.prog 54 #[.agg #[v, .bool (seqO nH nT da fs dn fu 2).dn, .int .i64 (seqO nH nT da fs dn fu 2).fu], .string ⟨#[104, 97, 114, 100, 46, 116, 109, 112]⟩] x (DoIs x (seqO nH nT da fs dn fu 3).fs (seqO nH nT da fs dn fu 3).dn (seqO nH nT da fs dn fu 3).fu (seqO nH nT da fs dn fu 3).r)) := by
    intro h1 x v hx
    obtain ⟨hi, hl⟩ := hfit 2 (by omega)
    have e := seq_next da fs dn fu 2 h1
    rw [e]
    exact sync_ref v _ _ _ nT hi.lo hi.hi hl x hx
  have HSw : (seqO nH nT da fs dn fu 3).r = 0 → (∀ x v, Files x x.heap.size v (seqO nH nT da fs dn fu 3).fs → Calls Try.prog 55 #[.agg #[v, .bool (seqO nH nT da fs dn fu 3).dn, .int .i64 (seqO nH nT da fs dn fu 3).fu], .string ⟨#[104, 97, 114, 100, 46, 116, 109, 112]⟩, .string ⟨#[104, 97, 114, 100]⟩] x (DoIs x (seqO nH nT da fs dn fu 4).fs (seqO nH nT da fs dn fu 4).dn (seqO nH nT da fs dn fu 4).fu (seqO nH nT da fs dn fu 4).r)) := by
    intro h1 x v hx
    obtain ⟨hi, hl⟩ := hfit 3 (by omega)
    have e := seq_next da fs dn fu 3 h1
    rw [e]
    exact swap_ref v _ _ _ nT nH hi.lo hi.hi hl x hx
  have e1 : seqO nH nT da fs dn fu 1 = rw1 nT fs dn fu := seq_next da fs dn fu 0 rfl
  by_cases h6 : rdE fs dn nT = 6
  · have e2 : seqO nH nT da fs dn fu 1 = ⟨fs, dn, fu, 0⟩ := by rw [e1]; unfold rw1; rw [if_pos h6]
    have h1 : (seqO nH nT da fs dn fu 1).r = 0 := by rw [e2]
    have HA1 := HA h1
    rw [e2] at HA1
    exact put_skip dv dn fu fs da _ _ _ (by omega) _ _ _ _ (F 2 (by omega)) _ _ _ _ (F 3 (by omega)) _ _ _ _ (F 4 (by omega)) HR HA1 (fun h2 => HSy h2) (fun _ h3 => HSw h3) (fun h => seq_at2 da fs dn fu 2 (by omega) h) (fun _ h => seq_at2 da fs dn fu 3 (by omega) h) (fun _ _ => out_eta _) w hf
  · by_cases h0 : rdE fs dn nT = 0
    · have e2 : seqO nH nT da fs dn fu 1 = drpO fs dn fu nT := by rw [e1]; unfold rw1; rw [if_neg h6]
      exact put_drop dv dn fu fs da _ _ _ h0 _ _ _ _ (F 1 (by omega)) _ _ _ _ (F 2 (by omega)) _ _ _ _ (F 3 (by omega)) _ _ _ _ (F 4 (by omega)) HR (fun x v hx => by rw [e2]; exact drop_ref v fs dn fu nT hlo hhi h40 x hx) HA (fun _ h2 => HSy h2) (fun _ _ h3 => HSw h3) (fun h => seq_at2 da fs dn fu 1 (by omega) h) (fun _ h => seq_at2 da fs dn fu 2 (by omega) h) (fun _ _ h => seq_at2 da fs dn fu 3 (by omega) h) (fun _ _ _ => out_eta _) w hf
    · have hbad : chkN fs ≠ 0 ∨ dn = true := by
        by_cases h : chkN fs = 0
        · cases dn with
          | true => exact .inr rfl
          | false =>
            unfold rdE rdN at h0 h6
            rw [if_pos h] at h0 h6
            simp at h0 h6
            omega
        · exact .inl h
      obtain ⟨o, hr, ho, hk⟩ := seq_wrong da fs dn fu hbad
      have ha : addO fs dn fu nT da = o := by
        have h4 := hk 4 (by omega)
        by_cases h : chkN fs = 0
        · have hd : dn = true := hbad.resolve_left (fun e => e h)
          subst hd
          have h9 : seqO nH nT da fs true fu 1 = o := hk 1 (by omega)
          rw [e1] at h9
          unfold rw1 at h9
          rw [if_neg h6] at h9
          rw [← h9]
          exact (outO_pw h).trans (outO_pw h).symm
        · have h9 : seqO nH nT da fs dn fu 1 = o := hk 1 (by omega)
          rw [e1] at h9
          unfold rw1 at h9
          rw [if_neg h6] at h9
          rw [← h9]
          exact (outO_wr h).trans (outO_wr h).symm
      rw [hk 4 (by omega)]
      have hF := F 1 (by omega)
      rw [hk 1 (by omega)] at hF
      exact put_skip dv dn fu fs da o _ _ h0 o.fs o.dn o.fu o.r hF o.fs o.dn o.fu o.r hF o.fs o.dn o.fu o.r hF HR (fun x v hx => by rw [← ha]; exact add_ref v fs dn fu nT da hlo hhi h40 (by omega) (fun f hf => by have := hs f hf; omega) x hx) (fun h => absurd h hr) (fun h => absurd h hr) (fun _ => rfl) (fun h => absurd h hr) (fun h => absurd h hr) w hf
end Dk
end Go.Proofs.Ytpncflgcfndhmaa

/- THE DOCUMENT's Save. -/
namespace Go.Proofs.Ytpncflgcfndhmaa
open Go.RowKit Go.Lib Go.Sort
namespace Dk
set_option maxRecDepth 100000 in
set_option maxHeartbeats 4000000 in
theorem save_ref (dv : Value) (dn : Bool) (fu : Int) (fs : List Fl) (t v : Nat) (O : Out) (ht : t < 2 ^ 64) (hv : v ≤ 7)
    (HD : ∀ (x : World), Files x x.heap.size dv fs → Calls Try.prog 29 #[.agg #[dv, .bool dn, .int .i64 fu], .string ⟨#[104, 97, 114, 100]⟩, .string (PM.bs (Hd.encL t v))] x (PutIs x O))
    (w : World) (hf : Files w w.heap.size dv fs) :
    Calls Try.prog 12 #[.agg #[dv, .bool dn, .int .i64 fu], .agg #[.int .u64 (t : Nat), .int .i64 (v : Nat)]] w (DoW w (.slice none 0 0) O.fs O.dn O.fu O.r) := by
  have HF := Lib.hid hf
  obtain ⟨a, c, rfl⟩ := files_slice hf
  have HCK := Lib.hid (fun w => Hd.check_ref (t : Nat) (v : Nat) w)
  have hc0 : Hd.chkH (v : Nat) = 0 := by unfold Hd.chkH; rw [if_neg (by omega), if_neg (by omega)]
  rw [hc0] at HCK
  have HEN := Lib.hid (fun w => Hd.file_ref t v ht (by omega) w)
  generalize hn : fs.length = n at *
  rcases O with ⟨fs2, dn2, fu2, r2⟩
  unfold PutIs at HD
  simp only at HD ⊢
  generalize PM.bs (Hd.encL t v) = da at *
  have HDO := Lib.hid HD
  clear hf hn HD hc0
  have L0 : Hid (∀ z, (z.cell? ⟨w.heap.size, 0, none⟩ = some (.slice a n c) ∧ z.cell? ⟨w.heap.size, 1, none⟩ = some (.bool dn) ∧ z.cell? ⟨w.heap.size, 2, none⟩ = some (.int .i64 fu) ∧ z.cell? ⟨w.heap.size + 1, 0, none⟩ = some (.int .u64 (t : Nat)) ∧ z.cell? ⟨w.heap.size + 1, 1, none⟩ = some (.int .i64 (v : Nat)) ∧ Hid (Below w.heap.size w z ∧ w.heap.size + 3 ≤ z.heap.size)) → ∀ z', Below z.heap.size z z' → (z'.cell? ⟨w.heap.size, 0, none⟩ = some (.slice a n c) ∧ z'.cell? ⟨w.heap.size, 1, none⟩ = some (.bool dn) ∧ z'.cell? ⟨w.heap.size, 2, none⟩ = some (.int .i64 fu) ∧ z'.cell? ⟨w.heap.size + 1, 0, none⟩ = some (.int .u64 (t : Nat)) ∧ z'.cell? ⟨w.heap.size + 1, 1, none⟩ = some (.int .i64 (v : Nat)) ∧ Hid (Below w.heap.size w z' ∧ w.heap.size + 3 ≤ z'.heap.size))) := by
    intro z h z' hb
    obtain ⟨a0, a1, a2, b0, b1, hS⟩ := h
    have hz := hS.out.2
    have k0 : ∀ i, z'.cell? ⟨w.heap.size, i, none⟩ = z.cell? ⟨w.heap.size, i, none⟩ := fun i => hb.cell (by show w.heap.size < _; omega)
    have k1 : ∀ i, z'.cell? ⟨w.heap.size + 1, i, none⟩ = z.cell? ⟨w.heap.size + 1, i, none⟩ := fun i => hb.cell (by show w.heap.size + 1 < _; omega)
    have hE : Hid (Below w.heap.size w z' ∧ w.heap.size + 3 ≤ z'.heap.size) := ⟨hS.out.1.trans (hb.mono (by omega)), by have := hb.size; omega⟩
    simp only [k0, k1]
    exact ⟨a0, a1, a2, b0, b1, hE⟩
  have LT : Hid (∀ z u0 u1 u2, (z.cell? ⟨w.heap.size, 0, none⟩ = some (.slice a n c) ∧ z.cell? ⟨w.heap.size, 1, none⟩ = some (.bool dn) ∧ z.cell? ⟨w.heap.size, 2, none⟩ = some (.int .i64 fu) ∧ z.cell? ⟨w.heap.size + 1, 0, none⟩ = some (.int .u64 (t : Nat)) ∧ z.cell? ⟨w.heap.size + 1, 1, none⟩ = some (.int .i64 (v : Nat)) ∧ Hid (Below w.heap.size w z ∧ w.heap.size + 3 ≤ z.heap.size)) → ((((z.setCell ⟨w.heap.size + 1 + 1, 0, none⟩ u0).setCell ⟨w.heap.size + 1 + 1, 1, none⟩ u1).setCell ⟨w.heap.size + 1 + 1, 2, none⟩ u2).cell? ⟨w.heap.size, 0, none⟩ = some (.slice a n c) ∧ (((z.setCell ⟨w.heap.size + 1 + 1, 0, none⟩ u0).setCell ⟨w.heap.size + 1 + 1, 1, none⟩ u1).setCell ⟨w.heap.size + 1 + 1, 2, none⟩ u2).cell? ⟨w.heap.size, 1, none⟩ = some (.bool dn) ∧ (((z.setCell ⟨w.heap.size + 1 + 1, 0, none⟩ u0).setCell ⟨w.heap.size + 1 + 1, 1, none⟩ u1).setCell ⟨w.heap.size + 1 + 1, 2, none⟩ u2).cell? ⟨w.heap.size, 2, none⟩ = some (.int .i64 fu) ∧ (((z.setCell ⟨w.heap.size + 1 + 1, 0, none⟩ u0).setCell ⟨w.heap.size + 1 + 1, 1, none⟩ u1).setCell ⟨w.heap.size + 1 + 1, 2, none⟩ u2).cell? ⟨w.heap.size + 1, 0, none⟩ = some (.int .u64 (t : Nat)) ∧ (((z.setCell ⟨w.heap.size + 1 + 1, 0, none⟩ u0).setCell ⟨w.heap.size + 1 + 1, 1, none⟩ u1).setCell ⟨w.heap.size + 1 + 1, 2, none⟩ u2).cell? ⟨w.heap.size + 1, 1, none⟩ = some (.int .i64 (v : Nat)) ∧ Hid (Below w.heap.size w (((z.setCell ⟨w.heap.size + 1 + 1, 0, none⟩ u0).setCell ⟨w.heap.size + 1 + 1, 1, none⟩ u1).setCell ⟨w.heap.size + 1 + 1, 2, none⟩ u2) ∧ w.heap.size + 3 ≤ (((z.setCell ⟨w.heap.size + 1 + 1, 0, none⟩ u0).setCell ⟨w.heap.size + 1 + 1, 1, none⟩ u1).setCell ⟨w.heap.size + 1 + 1, 2, none⟩ u2).heap.size))) := by
    intro z u0 u1 u2 h
    obtain ⟨a0, a1, a2, b0, b1, hS⟩ := h
    have k : ∀ b i, b < w.heap.size + 2 → (((z.setCell ⟨w.heap.size + 1 + 1, 0, none⟩ u0).setCell ⟨w.heap.size + 1 + 1, 1, none⟩ u1).setCell ⟨w.heap.size + 1 + 1, 2, none⟩ u2).cell? ⟨b, i, none⟩ = z.cell? ⟨b, i, none⟩ := by
      intro b i hb
      have hne : ∀ j, (⟨w.heap.size + 1 + 1, j, none⟩ : Addr) ≠ ⟨b, i, none⟩ := fun j e => by injection e with e1; omega
      rw [World.cell?_setCell_other _ _ _ _ (hne 2), World.cell?_setCell_other _ _ _ _ (hne 1), World.cell?_setCell_other _ _ _ _ (hne 0)]
    have hE : Hid (Below w.heap.size w (((z.setCell ⟨w.heap.size + 1 + 1, 0, none⟩ u0).setCell ⟨w.heap.size + 1 + 1, 1, none⟩ u1).setCell ⟨w.heap.size + 1 + 1, 2, none⟩ u2) ∧ w.heap.size + 3 ≤ (((z.setCell ⟨w.heap.size + 1 + 1, 0, none⟩ u0).setCell ⟨w.heap.size + 1 + 1, 1, none⟩ u1).setCell ⟨w.heap.size + 1 + 1, 2, none⟩ u2).heap.size) := ⟨below3 hS.out.1 (by omega), by have := hS.out.2; simpa using this⟩
    rw [k _ _ (by omega), k _ _ (by omega), k _ _ (by omega), k _ _ (by omega), k _ _ (by omega)]
    exact ⟨a0, a1, a2, b0, b1, hE⟩
  have KB : Hid (∀ z, (z.cell? ⟨w.heap.size, 0, none⟩ = some (.slice a n c) ∧ z.cell? ⟨w.heap.size, 1, none⟩ = some (.bool dn) ∧ z.cell? ⟨w.heap.size, 2, none⟩ = some (.int .i64 fu) ∧ z.cell? ⟨w.heap.size + 1, 0, none⟩ = some (.int .u64 (t : Nat)) ∧ z.cell? ⟨w.heap.size + 1, 1, none⟩ = some (.int .i64 (v : Nat)) ∧ Hid (Below w.heap.size w z ∧ w.heap.size + 3 ≤ z.heap.size)) → Below w.heap.size w z ∧ w.heap.size + 3 ≤ z.heap.size) := fun z h => h.2.2.2.2.2.out
  have LD : Hid (∀ z, Below (((w.alloc (.cells #[.slice a n c, .bool dn, .int .i64 fu] 24)).alloc (.cells #[.int .u64 (t : Nat), .int .i64 (v : Nat)] 27)).alloc (.cells #[.slice none 0 0, .bool false, .int .i64 0] 24)).heap.size (((w.alloc (.cells #[.slice a n c, .bool dn, .int .i64 fu] 24)).alloc (.cells #[.int .u64 (t : Nat), .int .i64 (v : Nat)] 27)).alloc (.cells #[.slice none 0 0, .bool false, .int .i64 0] 24)) z → (z.cell? ⟨w.heap.size, 0, none⟩ = some (.slice a n c) ∧ z.cell? ⟨w.heap.size, 1, none⟩ = some (.bool dn) ∧ z.cell? ⟨w.heap.size, 2, none⟩ = some (.int .i64 fu) ∧ z.cell? ⟨w.heap.size + 1, 0, none⟩ = some (.int .u64 (t : Nat)) ∧ z.cell? ⟨w.heap.size + 1, 1, none⟩ = some (.int .i64 (v : Nat)) ∧ Hid (Below w.heap.size w z ∧ w.heap.size + 3 ≤ z.heap.size)) ∧ (z.cell? ⟨w.heap.size + 1 + 1, 0, none⟩ = some (.slice none 0 0) ∧ z.cell? ⟨w.heap.size + 1 + 1, 1, none⟩ = some (.bool false) ∧ z.cell? ⟨w.heap.size + 1 + 1, 2, none⟩ = some (.int .i64 0) ∧ z.frozen? ⟨w.heap.size + 1 + 1, 0, none⟩ = false ∧ z.frozen? ⟨w.heap.size + 1 + 1, 1, none⟩ = false ∧ z.frozen? ⟨w.heap.size + 1 + 1, 2, none⟩ = false)) := by
    intro z hb
    refine ⟨⟨?_, ?_, ?_, ?_, ?_, ⟨((((Below.refl _ _).alloc (Nat.le_refl _) _).alloc (by simp) _).alloc (by simp; omega) _).trans (hb.mono (by simp; omega)), by have := hb.size; simp at this; omega⟩⟩, ?_, ?_, ?_, ?_, ?_, ?_⟩
    all_goals first
      | (rw [hb.cell (by simp <;> omega)]; simp [go_sem])
      | (rw [hb.frozen (by simp <;> omega)]; simp [go_sem])
  go_enter Try.func12, Try.ntmps12
  go_wp2_with fail
  refine (HCK.out _).mono ?_
  rintro e w1 ⟨rfl, hb⟩
  have HS1 := Lib.hid (LD.out _ hb).1
  have HR1 := Lib.hid (LD.out _ hb).2
  have hz1 := (KB.out _ HS1.out).2
  have KE : Hid (∀ z, (z.cell? ⟨w.heap.size, 0, none⟩ = some (.slice a n c) ∧ z.cell? ⟨w.heap.size, 1, none⟩ = some (.bool dn) ∧ z.cell? ⟨w.heap.size, 2, none⟩ = some (.int .i64 fu) ∧ z.cell? ⟨w.heap.size + 1, 0, none⟩ = some (.int .u64 (t : Nat)) ∧ z.cell? ⟨w.heap.size + 1, 1, none⟩ = some (.int .i64 (v : Nat)) ∧ Hid (Below w.heap.size w z ∧ w.heap.size + 3 ≤ z.heap.size)) → Hid (Below w1.heap.size w1 z) → Calls Try.prog 23 #[.agg #[.int .u64 (t : Nat), .int .i64 (v : Nat)]] z fun e z' => e = .returned (.string da) ∧ Hid (Below w1.heap.size w1 z') ∧ (z'.cell? ⟨w.heap.size, 0, none⟩ = some (.slice a n c) ∧ z'.cell? ⟨w.heap.size, 1, none⟩ = some (.bool dn) ∧ z'.cell? ⟨w.heap.size, 2, none⟩ = some (.int .i64 fu) ∧ z'.cell? ⟨w.heap.size + 1, 0, none⟩ = some (.int .u64 (t : Nat)) ∧ z'.cell? ⟨w.heap.size + 1, 1, none⟩ = some (.int .i64 (v : Nat)) ∧ Hid (Below w.heap.size w z' ∧ w.heap.size + 3 ≤ z'.heap.size))) := fun z h hw => (HEN.out z).mono fun e z' ⟨he, hb⟩ => ⟨he, hw.out.trans (hb.mono hw.out.size), L0.out z h z' hb⟩
  have KO : Hid (∀ z, (z.cell? ⟨w.heap.size, 0, none⟩ = some (.slice a n c) ∧ z.cell? ⟨w.heap.size, 1, none⟩ = some (.bool dn) ∧ z.cell? ⟨w.heap.size, 2, none⟩ = some (.int .i64 fu) ∧ z.cell? ⟨w.heap.size + 1, 0, none⟩ = some (.int .u64 (t : Nat)) ∧ z.cell? ⟨w.heap.size + 1, 1, none⟩ = some (.int .i64 (v : Nat)) ∧ Hid (Below w.heap.size w z ∧ w.heap.size + 3 ≤ z.heap.size)) → Hid (Below w1.heap.size w1 z) → Calls Try.prog 29 #[.agg #[.slice a n c, .bool dn, .int .i64 fu], .string ⟨#[104, 97, 114, 100]⟩, .string da] z fun e z' => ∃ (a5 : Option Addr) (c5 : Nat), e = .returned (.tuple #[.agg #[.slice a5 fs2.length c5, .bool dn2, .int .i64 fu2], .int .i64 (r2 : Nat)]) ∧ Hid (Files z' z'.heap.size (.slice a5 fs2.length c5) fs2 ∧ Hi (w.heap.size + 3) (.slice a5 fs2.length c5)) ∧ (z'.cell? ⟨w.heap.size + 1 + 1, 0, none⟩ = some (.slice none 0 0) ∧ z'.cell? ⟨w.heap.size + 1 + 1, 1, none⟩ = some (.bool false) ∧ z'.cell? ⟨w.heap.size + 1 + 1, 2, none⟩ = some (.int .i64 0) ∧ z'.frozen? ⟨w.heap.size + 1 + 1, 0, none⟩ = false ∧ z'.frozen? ⟨w.heap.size + 1 + 1, 1, none⟩ = false ∧ z'.frozen? ⟨w.heap.size + 1 + 1, 2, none⟩ = false) ∧ (z'.cell? ⟨w.heap.size, 0, none⟩ = some (.slice a n c) ∧ z'.cell? ⟨w.heap.size, 1, none⟩ = some (.bool dn) ∧ z'.cell? ⟨w.heap.size, 2, none⟩ = some (.int .i64 fu) ∧ z'.cell? ⟨w.heap.size + 1, 0, none⟩ = some (.int .u64 (t : Nat)) ∧ z'.cell? ⟨w.heap.size + 1, 1, none⟩ = some (.int .i64 (v : Nat)) ∧ Hid (Below w.heap.size w z' ∧ w.heap.size + 3 ≤ z'.heap.size))) := by
    intro z h hw
    obtain ⟨hb0, hz0⟩ := KB.out z h
    refine (HDO.out z (HF.out.on hb0 (by omega))).mono ?_
    rintro e z' ⟨a5, c5, rfl, hf5, hh5, hb⟩
    have hb9 : Below w1.heap.size w1 z' := hw.out.trans (hb.mono hw.out.size)
    have k2 : ∀ i, z'.cell? ⟨w.heap.size + 1 + 1, i, none⟩ = w1.cell? ⟨w.heap.size + 1 + 1, i, none⟩ := fun i => hb9.cell (by show w.heap.size + 1 + 1 < _; omega)
    have k3 : ∀ i, z'.frozen? ⟨w.heap.size + 1 + 1, i, none⟩ = w1.frozen? ⟨w.heap.size + 1 + 1, i, none⟩ := fun i => hb9.frozen (by show w.heap.size + 1 + 1 < _; omega)
    refine ⟨a5, c5, rfl, ⟨hf5, hh5.le hz0⟩, ?_, L0.out z h z' hb⟩
    simp only [k2, k3]
    exact HR1.out
  have KD : Hid (w1.drew.cell? ⟨w.heap.size, 0, none⟩ = some (.slice a n c) ∧ w1.drew.cell? ⟨w.heap.size, 1, none⟩ = some (.bool dn) ∧ w1.drew.cell? ⟨w.heap.size, 2, none⟩ = some (.int .i64 fu) ∧ w1.drew.cell? ⟨w.heap.size + 1, 0, none⟩ = some (.int .u64 (t : Nat)) ∧ w1.drew.cell? ⟨w.heap.size + 1, 1, none⟩ = some (.int .i64 (v : Nat)) ∧ Hid (Below w.heap.size w w1.drew ∧ w.heap.size + 3 ≤ w1.drew.heap.size)) := by
    obtain ⟨a0, a1, a2, b0, b1, hS⟩ := HS1.out
    exact ⟨a0, a1, a2, b0, b1, ⟨bdN hS.out.1 1, hS.out.2⟩⟩
  have KW : Hid (Below w1.heap.size w1 w1.drew) := (Below.refl _ _).drew
  clear hb LD L0 HEN HDO
  go_wp2
  go_region_held3 (fun z => (z.cell? ⟨w.heap.size, 0, none⟩ = some (.slice a n c) ∧ z.cell? ⟨w.heap.size, 1, none⟩ = some (.bool dn) ∧ z.cell? ⟨w.heap.size, 2, none⟩ = some (.int .i64 fu) ∧ z.cell? ⟨w.heap.size + 1, 0, none⟩ = some (.int .u64 (t : Nat)) ∧ z.cell? ⟨w.heap.size + 1, 1, none⟩ = some (.int .i64 (v : Nat)) ∧ Hid (Below w.heap.size w z ∧ w.heap.size + 3 ≤ z.heap.size))) (first | assumption | exact KD.out | exact LT.out _ _ _ _ (by assumption))
    (first
      | (go_at_call 23; go_loud ((with_reducible refine (KE.out _ ?_ ?_).mono ?_); assumption; assumption; rintro e w7 ⟨rfl, hW7, hS⟩))
      | (go_at_call 29; go_loud ((with_reducible refine (KO.out _ ?_ ?_).mono ?_); assumption; assumption; rintro e w9 ⟨a5, c5, rfl, hF5, ⟨x0, x1, x2, x3, x4, x5⟩, hS⟩)))
  all_goals
    go_wp2
    refine bodyPost_disk rfl (w.heap.size + 1 + 1) (.slice a5 fs2.length c5) dn2 fu2 rfl rfl ?_ ?_ ?_ ?_
    case refine_1 => go_simp
    case refine_2 => go_simp
    case refine_3 => go_simp
    case refine_4 => exact ⟨_, rfl, hF5.out.1.put3 hF5.out.2 (by omega), fun B hB _ => hF5.out.2.le (by omega), below3 (KB.out w9 (by assumption)).1 (by omega)⟩
set_option maxRecDepth 100000 in
set_option maxHeartbeats 4000000 in
theorem saveb_ref (dv : Value) (dn : Bool) (fu : Int) (fs : List Fl) (t v : Int) (hv : Hd.chkH v ≠ 0) (h40 : fs.length * 40 ≤ 140737488355328) (w : World) (hf : Files w w.heap.size dv fs) :
    Calls Try.prog 12 #[.agg #[dv, .bool dn, .int .i64 fu], .agg #[.int .u64 t, .int .i64 v]] w (DoW w (.slice none 0 0) (nonO fs dn fu).fs (nonO fs dn fu).dn (nonO fs dn fu).fu 1) := by
  have HCK := Lib.hid (fun w => Hd.check_ref t v w)
  have hv1 : Hd.chkH v = 1 := by unfold Hd.chkH at hv ⊢; split <;> simp_all
  rw [hv1] at HCK
  have HF := Lib.hid hf
  have HCD := Lib.hid (fun x hx => check_ref dv dn fu fs x hx)
  have HCO := Lib.hid (fun x hx => copy_ref dv dn fu fs x hx h40)
  have HFI := Lib.hid hf.fine
  by_cases h0 : chkN fs = 0
  · have hno : nonO fs dn fu = ⟨fs, dn, fu, 0⟩ := by unfold nonO; rw [if_pos h0]
    rw [hno]
    show Calls _ _ _ _ (DoW w (.slice none 0 0) fs dn fu 1)
    rw [h0] at HCD
    obtain ⟨a, c, rfl⟩ := files_slice hf
    unfold CopyIs at HCO
    generalize hn : fs.length = n at *
    have HN := Lib.hid hn
    have HL := Lib.hid (show n ≤ 4611686018427387904 by omega)
    clear hv hv1 hf hno h0 hn h40
    go_enter Try.func12, Try.ntmps12
    go_wp2_with (go_at_call 16; go_loud (refine (HCK.out _).mono ?_; rintro e w1 ⟨rfl, hb⟩; obtain ⟨hd, he, hw, hz⟩ := three_made _ _ _ _ _ _ _ _ _ _ hb; have HD1 := Lib.hid hd; have HE1 := Lib.hid he; have HW1 := Lib.hid hw; have HZ1 := Lib.hid hz; obtain ⟨d0, d1, d2, d3, d4, d5⟩ := hd; clear hb he hw hz))
    go_wp2_with (go_at_call 28; go_loud (refine (HCD.out _ (HF.out.on HW1.out HW1.out.size)).mono ?_; rintro e w2 ⟨rfl, hb⟩; have HD2 := Lib.hid (HD1.out.keep hb (by have := HZ1.out; omega)); have HE2 := Lib.hid (HE1.out.keep hb (by have := HZ1.out; omega)); have HW2 := Lib.hid (HW1.out.trans (hb.mono HW1.out.size)); have HZ2 := Lib.hid (Nat.le_trans HZ1.out hb.size); obtain ⟨d0, d1, d2, d3, d4, d5⟩ := HD2.out; clear hb))
    go_wp2_with fail
    refine (HCO.out _ (HF.out.on HW2.out HW2.out.size)).mono ?_
    rintro e w3 ⟨v3, rfl, hown, hb⟩
    obtain ⟨a3, c3, hv3⟩ := hown.slice
    rw [HN.out] at hv3
    subst hv3
    obtain ⟨x0, x1, x2, x3, x4, x5⟩ := HE2.out.keep hb (by have := HZ2.out; omega)
    have HB3 := Lib.hid (HW2.out.trans (hb.mono HW2.out.size))
    have HI3 := Lib.hid (hown.hi.le (B := w.heap.size + 3) (by have := HZ2.out; omega))
    have HF3 := Lib.hid (hown.files HFI.out (by rw [HN.out]; exact HL.out))
    clear hb hown
    go_wp2
    refine bodyPost_disk rfl (w.heap.size + 1 + 1) (.slice a3 n c3) dn fu rfl rfl ?_ ?_ ?_ ?_
    case refine_1 => go_simp
    case refine_2 => go_simp
    case refine_3 => go_simp
    case refine_4 => exact ⟨_, rfl, HF3.out.put3 HI3.out (by omega), fun B hB _ => HI3.out.le (by omega), below3 HB3.out (by omega)⟩
  · have hno : nonO fs dn fu = ⟨[], false, 0, 0⟩ := by unfold nonO; rw [if_neg h0]
    rw [hno]
    show Calls _ _ _ _ (DoW w (.slice none 0 0) [] false 0 1)
    rw [(chk_two fs).resolve_left h0] at HCD
    obtain ⟨a, c, rfl⟩ := files_slice hf
    generalize fs.length = n at *
    clear hv hv1 hf hno h0 h40 HCO HFI
    go_enter Try.func12, Try.ntmps12
    go_wp2_with (go_at_call 16; go_loud (refine (HCK.out _).mono ?_; rintro e w1 ⟨rfl, hb⟩; obtain ⟨hd, he, hw, hz⟩ := three_made _ _ _ _ _ _ _ _ _ _ hb; have HD1 := Lib.hid hd; have HE1 := Lib.hid he; have HW1 := Lib.hid hw; have HZ1 := Lib.hid hz; obtain ⟨d0, d1, d2, d3, d4, d5⟩ := hd; clear hb he hw hz))
    go_wp2_with (go_at_call 28; go_loud (refine (HCD.out _ (HF.out.on HW1.out HW1.out.size)).mono ?_; rintro e w2 ⟨rfl, hb⟩; obtain ⟨x0, x1, x2, x3, x4, x5⟩ := HE1.out.keep hb (by have := HZ1.out; omega); have HW2 := Lib.hid (HW1.out.trans (hb.mono HW1.out.size)); clear hb))
    go_wp2
    refine bodyPost_disk rfl (w.heap.size + 1 + 1) (.slice none 0 0) false 0 rfl rfl ?_ ?_ ?_ ?_
    case refine_1 => go_simp
    case refine_2 => go_simp
    case refine_3 => go_simp
    case refine_4 => exact ⟨_, rfl, ⟨none, 0, rfl, by simp, by simp, by simp⟩, fun B hB _ => hi_none _ _ _, by first | exact HW2.out | exact below3 HW2.out (by omega)⟩
/-- Saving, by the program and by the document: the same. -/
def savO (fs : List Fl) (dn : Bool) (fu : Int) (t v : Int) : Out := if Hd.chkH v = 0 then seqO nH nT (encB t.toNat v.toNat) fs dn fu 4 else ⟨(nonO fs dn fu).fs, (nonO fs dn fu).dn, (nonO fs dn fu).fu, 1⟩
theorem sav_bd {t v : Int} (ht : 0 ≤ t ∧ t ≤ 18446744073709551615) (h : Hd.chkH v = 0) : ∃ a b : Nat, t = (a : Nat) ∧ v = (b : Nat) ∧ a < 2 ^ 64 ∧ b ≤ 7 := by
  have h7 : 0 ≤ v ∧ v ≤ 7 := by unfold Hd.chkH at h; split at h <;> (try split at h) <;> omega
  obtain ⟨a, rfl⟩ := Int.eq_ofNat_of_zero_le ht.1
  obtain ⟨b, rfl⟩ := Int.eq_ofNat_of_zero_le h7.1
  exact ⟨a, b, rfl, rfl, by omega, by omega⟩
theorem save_is (dv : Value) (fs : List Fl) (dn : Bool) (fu : Int) (h40 : fs.length * 40 ≤ 140737488355328) (hs : ∀ f ∈ fs, f.da.size ≤ 140737488355328) (hlo : -9223372036854775808 ≤ fu) (hhi : fu ≤ 9223372036854775807) (t v : Int) (ht : 0 ≤ t ∧ t ≤ 18446744073709551615) (w : World) (hf : Files w w.heap.size dv fs) :
    Calls Try.prog 11 #[.agg #[dv, .bool dn, .int .i64 fu], .agg #[.int .u64 t, .int .i64 v]] w (DoW w (.slice none 0 0) (savO fs dn fu t v).fs (savO fs dn fu t v).dn (savO fs dn fu t v).fu (savO fs dn fu t v).r) := by
  by_cases h : Hd.chkH v = 0
  · obtain ⟨a, b, rfl, rfl, ha, hb⟩ := sav_bd ht h
    have e : savO fs dn fu (a : Nat) (b : Nat) = seqO nH nT (encB a b) fs dn fu 4 := by unfold savO; rw [if_pos h]; rfl
    rw [e]
    by_cases h0 : chkN fs ≠ 0 ∨ dn = true
    · exact save_wrong dv fs dn fu h0 h40 hs hlo hhi a b ha hb w hf
    · have h1 : chkN fs = 0 := Decidable.byContradiction fun e => h0 (.inl e)
      have hd : dn = false := by cases dn; rfl; exact absurd (.inr rfl) h0
      subst hd
      exact save_any 140737488355328 (by omega) (by omega) dv fs fu h1 hs hlo hhi a b ha hb w hf
  · have e : savO fs dn fu t v = ⟨(nonO fs dn fu).fs, (nonO fs dn fu).dn, (nonO fs dn fu).fu, 1⟩ := by unfold savO; rw [if_neg h]
    rw [e]
    exact save_badv dv dn fu fs t v h w hf
theorem savr_is (dv : Value) (fs : List Fl) (dn : Bool) (fu : Int) (h40 : fs.length * 40 ≤ 140737488355328) (hs : ∀ f ∈ fs, f.da.size ≤ 140737488355328) (hlo : -9223372036854775808 ≤ fu) (hhi : fu ≤ 9223372036854775807) (t v : Int) (ht : 0 ≤ t ∧ t ≤ 18446744073709551615) (w : World) (hf : Files w w.heap.size dv fs) :
    Calls Try.prog 12 #[.agg #[dv, .bool dn, .int .i64 fu], .agg #[.int .u64 t, .int .i64 v]] w (DoW w (.slice none 0 0) (savO fs dn fu t v).fs (savO fs dn fu t v).dn (savO fs dn fu t v).fu (savO fs dn fu t v).r) := by
  by_cases h : Hd.chkH v = 0
  · obtain ⟨a, b, rfl, rfl, ha, hb⟩ := sav_bd ht h
    have e : savO fs dn fu (a : Nat) (b : Nat) = seqO nH nT (encB a b) fs dn fu 4 := by unfold savO; rw [if_pos h]; rfl
    rw [e]
    exact save_ref dv dn fu fs a b _ ha hb (fun x hx => put_ref dv dn fu fs (encB a b) (encB_size a b ha hb) h40 hs hlo hhi x hx) w hf
  · have e : savO fs dn fu t v = ⟨(nonO fs dn fu).fs, (nonO fs dn fu).dn, (nonO fs dn fu).fu, 1⟩ := by unfold savO; rw [if_neg h]
    rw [e]
    exact saveb_ref dv dn fu fs t v h h40 w hf
end Dk
end Go.Proofs.Ytpncflgcfndhmaa

/- LAW: HardDoes. -/
namespace Go.Proofs.Ytpncflgcfndhmaa
open Go.RowKit Go.Lib Go.Sort
namespace Dk
/-- A box that holds a term and a vote. -/
structure Hb (x : World) (B : Nat) (t v : Int) : Prop where
  hi : B < x.heap.size
  c0 : x.cell? ⟨B, 0, none⟩ = some (.int .u64 t)
  c1 : x.cell? ⟨B, 1, none⟩ = some (.int .i64 v)
theorem Hb.keep {x x' : World} {B : Nat} {t v : Int} (h : Hb x B t v) (hb : Below x.heap.size x x') : Hb x' B t v := ⟨Nat.lt_of_lt_of_le h.hi hb.size, (hb.cell h.hi).trans h.c0, (hb.cell h.hi).trans h.c1⟩
theorem Hb.made (x : World) (t v : Int) : Hb (x.alloc (.cells #[.int .u64 t, .int .i64 v] 27)) x.heap.size t v := ⟨by simp, by simp [go_sem], by simp [go_sem]⟩
theorem Hb.next {x x' : World} {B : Nat} {t v : Int} (h : Hb x B t v) (hb : Below x.heap.size x x') (o : Obj) :
    Hb (x'.alloc o) B t v ∧ x'.cell? ⟨B, 0, none⟩ = some (.int .u64 t) ∧ x'.cell? ⟨B, 1, none⟩ = some (.int .i64 v) ∧ B < x'.heap.size :=
  ⟨h.keep (hb.alloc hb.size _), (h.keep hb).c0, (h.keep hb).c1, (h.keep hb).hi⟩
theorem St.hard {w x : World} {B : Nat} {v : Value} {dn : Bool} {fu : Int} {fs : List Fl} (h : St w B x v dn fu fs) (o : Obj) : St w B (x.alloc o) v dn fu fs := h.keep ((Below.refl _ _).alloc (Nat.le_refl _) _)
set_option maxRecDepth 100000 in
set_option maxHeartbeats 8000000 in
theorem hardDoes (dv : Value) (dn : Bool) (fu : Int) (fs : List Fl) (t v : Int) (ht : 0 ≤ t ∧ t ≤ 18446744073709551615) (h40 : fs.length * 40 ≤ 140737488355328) (hs : ∀ f ∈ fs, f.da.size ≤ 140737488355328) (hlo : -9223372036854775808 ≤ fu) (hhi : fu ≤ 9223372036854775807) (w : World) (hf : Files w w.heap.size dv fs) :
    Calls Try.prog 3 #[.agg #[dv, .bool dn, .int .i64 fu], .agg #[.int .u64 t, .int .i64 v]] w fun e w' => e = .returned (.bool true) ∧ Below w.heap.size w w' := by
  have HV := Lib.hid hf
  have HF := Lib.hid hf.fine
  have HL := Lib.hid hf.len
  have HCO := Lib.hid (fun u x hx => copy_ref u dn fu fs x hx h40)
  have hl1 := fun u x hx => load_any u dn fu fs x hx
  have hl2 := fun u x hx => load_ref u dn fu fs x hx
  unfold LoadIs at hl1 hl2
  generalize ldT fs dn = lt at hl1 hl2
  generalize ldV fs dn = lv at hl1 hl2
  generalize ldE fs dn = le at hl1 hl2
  have HL1 := Lib.hid hl1
  have HL2 := Lib.hid hl2
  have hs1 := fun u x hx => save_is u fs dn fu h40 hs hlo hhi t v ht x hx
  have hs2 := fun u x hx => savr_is u fs dn fu h40 hs hlo hhi t v ht x hx
  generalize savO fs dn fu t v = O at hs1 hs2
  rcases O with ⟨f2, dn2, fu2, r2⟩
  simp only at hs1 hs2
  have HS1 := Lib.hid hs1
  have HS2 := Lib.hid hs2
  have HC1 := Lib.hid (fun x => Hd.check_any t v x)
  have HC2 := Lib.hid (fun x => Hd.check_ref t v x)
  generalize Hd.chkH v = ck at HC1 HC2
  have gf := guard_hard
  have HEQ := Lib.hid (fun t1 v1 t2 v2 w => eql_hard t1 v1 t2 v2 w)
  obtain ⟨a, c, rfl⟩ := files_slice hf
  have HD0 := Lib.hid ((St.made (dn := dn) (fu := fu) HV.out).hard (.cells #[.int .u64 t, .int .i64 v] 27))
  have HH0 : Hid (Hb ((w.alloc (.cells #[.slice a fs.length c, .bool dn, .int .i64 fu] 24)).alloc (.cells #[.int .u64 t, .int .i64 v] 27)) (w.heap.size + 1) t v) := by
    have h9 := Hb.made (w.alloc (.cells #[.slice a fs.length c, .bool dn, .int .i64 fu] 24)) t v
    rw [World.size_alloc] at h9
    exact h9
  clear hf h40 hs hlo hhi hl1 hl2 hs1 hs2 ht
  go_enter Try.func3, Try.ntmps3
  go_wp2_with fail
  refine (HCO.out _ _ HD0.out.files).mono ?_
  intro e w1 hc
  obtain ⟨a1, c1, rfl, hb, hg⟩ := hc.var HD0.out.below HF.out HL.out
  have HG1 := Lib.hid hg
  obtain ⟨hD, fd0, fd1, fd2, fdl⟩ := HD0.out.next hb (.cells #[.slice a1 fs.length c1, .bool dn, .int .i64 fu] 24)
  have HD1 := Lib.hid hD
  clear hD HD0
  obtain ⟨hH, fh0, fh1, fhl⟩ := HH0.out.next hb (.cells #[.slice a1 fs.length c1, .bool dn, .int .i64 fu] 24)
  have HH1 := Lib.hid hH
  clear hH HH0
  clear hb hc hg
  go_wp2_with fail
  refine (HL1.out _ _ HG1.out.files).mono ?_
  rintro e w2 ⟨rfl, hb⟩
  have HA2 := Lib.hid (Hb.made w2 lt lv)
  clear fd0 fd1 fd2 fdl fh0 fh1 fhl
  obtain ⟨hD, fd0, fd1, fd2, fdl⟩ := HD1.out.next hb (.cells #[.int .u64 lt, .int .i64 lv] 27)
  have HD2 := Lib.hid hD
  clear hD HD1
  obtain ⟨hG, fg0, fg1, fg2, fgl⟩ := HG1.out.next hb (.cells #[.int .u64 lt, .int .i64 lv] 27)
  have HG2 := Lib.hid hG
  clear hG HG1
  obtain ⟨hH, fh0, fh1, fhl⟩ := HH1.out.next hb (.cells #[.int .u64 lt, .int .i64 lv] 27)
  have HH2 := Lib.hid hH
  clear hH HH1
  clear hb
  go_wp2_with fail
  refine (HL2.out _ _ HD2.out.files).mono ?_
  rintro e w3 ⟨rfl, hb⟩
  have HB3 := Lib.hid (Hb.made w3 lt lv)
  clear fd0 fd1 fd2 fdl fg0 fg1 fg2 fgl fh0 fh1 fhl
  obtain ⟨hD, fd0, fd1, fd2, fdl⟩ := HD2.out.next hb (.cells #[.int .u64 lt, .int .i64 lv] 27)
  have HD3 := Lib.hid hD
  clear hD HD2
  obtain ⟨hG, fg0, fg1, fg2, fgl⟩ := HG2.out.next hb (.cells #[.int .u64 lt, .int .i64 lv] 27)
  have HG3 := Lib.hid hG
  clear hG HG2
  obtain ⟨hH, fh0, fh1, fhl⟩ := HH2.out.next hb (.cells #[.int .u64 lt, .int .i64 lv] 27)
  have HH3 := Lib.hid hH
  clear hH HH2
  obtain ⟨hA, fa0, fa1, fal⟩ := HA2.out.next hb (.cells #[.int .u64 lt, .int .i64 lv] 27)
  have HA3 := Lib.hid hA
  clear hA HA2
  clear hb
  go_wp2_with fail
  refine (HS1.out _ _ HG3.out.files).mono ?_
  rintro e w4 ⟨v4, rfl, hz, -, hb⟩
  obtain ⟨a4, c4, rfl⟩ := files_slice hz
  have HX4 := Lib.hid (St.new (dn := dn2) (fu := fu2) (HD3.out.below.trans (hb.mono HD3.out.below.size)) hz)
  clear hz
  clear fd0 fd1 fd2 fdl fg0 fg1 fg2 fgl fh0 fh1 fhl fa0 fa1 fal
  obtain ⟨hD, fd0, fd1, fd2, fdl⟩ := HD3.out.next hb (.cells #[.slice a4 f2.length c4, .bool dn2, .int .i64 fu2] 24)
  have HD4 := Lib.hid hD
  clear hD HD3
  obtain ⟨hG, fg0, fg1, fg2, fgl⟩ := HG3.out.next hb (.cells #[.slice a4 f2.length c4, .bool dn2, .int .i64 fu2] 24)
  have HG4 := Lib.hid hG
  clear hG HG3
  obtain ⟨hH, fh0, fh1, fhl⟩ := HH3.out.next hb (.cells #[.slice a4 f2.length c4, .bool dn2, .int .i64 fu2] 24)
  have HH4 := Lib.hid hH
  clear hH HH3
  obtain ⟨hA, fa0, fa1, fal⟩ := HA3.out.next hb (.cells #[.slice a4 f2.length c4, .bool dn2, .int .i64 fu2] 24)
  have HA4 := Lib.hid hA
  clear hA HA3
  obtain ⟨hB, fb0, fb1, fbl⟩ := HB3.out.next hb (.cells #[.slice a4 f2.length c4, .bool dn2, .int .i64 fu2] 24)
  have HB4 := Lib.hid hB
  clear hB HB3
  clear hb
  go_wp2_with fail
  refine (HS2.out _ _ HD4.out.files).mono ?_
  rintro e w5 ⟨v5, rfl, hz, -, hb⟩
  obtain ⟨a5, c5, rfl⟩ := files_slice hz
  have HY5 := Lib.hid (St.new (dn := dn2) (fu := fu2) (HD4.out.below.trans (hb.mono HD4.out.below.size)) hz)
  clear hz
  clear fd0 fd1 fd2 fdl fg0 fg1 fg2 fgl fh0 fh1 fhl fa0 fa1 fal fb0 fb1 fbl
  obtain ⟨hD, fd0, fd1, fd2, fdl⟩ := HD4.out.next hb (.cells #[.slice a5 f2.length c5, .bool dn2, .int .i64 fu2] 24)
  have HD5 := Lib.hid hD
  clear hD HD4
  obtain ⟨hG, fg0, fg1, fg2, fgl⟩ := HG4.out.next hb (.cells #[.slice a5 f2.length c5, .bool dn2, .int .i64 fu2] 24)
  have HG5 := Lib.hid hG
  clear hG HG4
  obtain ⟨hX, fx0, fx1, fx2, fxl⟩ := HX4.out.next hb (.cells #[.slice a5 f2.length c5, .bool dn2, .int .i64 fu2] 24)
  have HX5 := Lib.hid hX
  clear hX HX4
  obtain ⟨hH, fh0, fh1, fhl⟩ := HH4.out.next hb (.cells #[.slice a5 f2.length c5, .bool dn2, .int .i64 fu2] 24)
  have HH5 := Lib.hid hH
  clear hH HH4
  obtain ⟨hA, fa0, fa1, fal⟩ := HA4.out.next hb (.cells #[.slice a5 f2.length c5, .bool dn2, .int .i64 fu2] 24)
  have HA5 := Lib.hid hA
  clear hA HA4
  obtain ⟨hB, fb0, fb1, fbl⟩ := HB4.out.next hb (.cells #[.slice a5 f2.length c5, .bool dn2, .int .i64 fu2] 24)
  have HB5 := Lib.hid hB
  clear hB HB4
  clear hb
  have HY5' := HY5
  have PM : Hid (∀ z, Below (w5.alloc (.cells #[.slice a5 f2.length c5, .bool dn2, .int .i64 fu2] 24)).heap.size (w5.alloc (.cells #[.slice a5 f2.length c5, .bool dn2, .int .i64 fu2] 24)) z → z.cell? ⟨w.heap.size, 0, none⟩ = some (.slice a fs.length c) ∧ z.cell? ⟨w.heap.size, 1, none⟩ = some (.bool dn) ∧ z.cell? ⟨w.heap.size, 2, none⟩ = some (.int .i64 fu) ∧ z.cell? ⟨w1.heap.size, 0, none⟩ = some (.slice a1 fs.length c1) ∧ z.cell? ⟨w1.heap.size, 1, none⟩ = some (.bool dn) ∧ z.cell? ⟨w1.heap.size, 2, none⟩ = some (.int .i64 fu) ∧ z.cell? ⟨w4.heap.size, 0, none⟩ = some (.slice a4 f2.length c4) ∧ z.cell? ⟨w4.heap.size, 1, none⟩ = some (.bool dn2) ∧ z.cell? ⟨w4.heap.size, 2, none⟩ = some (.int .i64 fu2) ∧ z.cell? ⟨w5.heap.size, 0, none⟩ = some (.slice a5 f2.length c5) ∧ z.cell? ⟨w5.heap.size, 1, none⟩ = some (.bool dn2) ∧ z.cell? ⟨w5.heap.size, 2, none⟩ = some (.int .i64 fu2) ∧ z.cell? ⟨w.heap.size + 1, 0, none⟩ = some (.int .u64 t) ∧ z.cell? ⟨w.heap.size + 1, 1, none⟩ = some (.int .i64 v) ∧ z.cell? ⟨w2.heap.size, 0, none⟩ = some (.int .u64 (lt : Nat)) ∧ z.cell? ⟨w2.heap.size, 1, none⟩ = some (.int .i64 (lv : Nat)) ∧ z.cell? ⟨w3.heap.size, 0, none⟩ = some (.int .u64 (lt : Nat)) ∧ z.cell? ⟨w3.heap.size, 1, none⟩ = some (.int .i64 (lv : Nat)) ∧ Hid (Below (w5.alloc (.cells #[.slice a5 f2.length c5, .bool dn2, .int .i64 fu2] 24)).heap.size (w5.alloc (.cells #[.slice a5 f2.length c5, .bool dn2, .int .i64 fu2] 24)) z)) := fun z hb => ⟨(HD5.out.keep hb).dx.d0, (HD5.out.keep hb).dx.d1, (HD5.out.keep hb).dx.d2, (HG5.out.keep hb).dx.d0, (HG5.out.keep hb).dx.d1, (HG5.out.keep hb).dx.d2, (HX5.out.keep hb).dx.d0, (HX5.out.keep hb).dx.d1, (HX5.out.keep hb).dx.d2, (HY5.out.keep hb).dx.d0, (HY5.out.keep hb).dx.d1, (HY5.out.keep hb).dx.d2, (HH5.out.keep hb).c0, (HH5.out.keep hb).c1, (HA5.out.keep hb).c0, (HA5.out.keep hb).c1, (HB5.out.keep hb).c0, (HB5.out.keep hb).c1, hb⟩
  have PB : Hid (∀ z, (z.cell? ⟨w.heap.size, 0, none⟩ = some (.slice a fs.length c) ∧ z.cell? ⟨w.heap.size, 1, none⟩ = some (.bool dn) ∧ z.cell? ⟨w.heap.size, 2, none⟩ = some (.int .i64 fu) ∧ z.cell? ⟨w1.heap.size, 0, none⟩ = some (.slice a1 fs.length c1) ∧ z.cell? ⟨w1.heap.size, 1, none⟩ = some (.bool dn) ∧ z.cell? ⟨w1.heap.size, 2, none⟩ = some (.int .i64 fu) ∧ z.cell? ⟨w4.heap.size, 0, none⟩ = some (.slice a4 f2.length c4) ∧ z.cell? ⟨w4.heap.size, 1, none⟩ = some (.bool dn2) ∧ z.cell? ⟨w4.heap.size, 2, none⟩ = some (.int .i64 fu2) ∧ z.cell? ⟨w5.heap.size, 0, none⟩ = some (.slice a5 f2.length c5) ∧ z.cell? ⟨w5.heap.size, 1, none⟩ = some (.bool dn2) ∧ z.cell? ⟨w5.heap.size, 2, none⟩ = some (.int .i64 fu2) ∧ z.cell? ⟨w.heap.size + 1, 0, none⟩ = some (.int .u64 t) ∧ z.cell? ⟨w.heap.size + 1, 1, none⟩ = some (.int .i64 v) ∧ z.cell? ⟨w2.heap.size, 0, none⟩ = some (.int .u64 (lt : Nat)) ∧ z.cell? ⟨w2.heap.size, 1, none⟩ = some (.int .i64 (lv : Nat)) ∧ z.cell? ⟨w3.heap.size, 0, none⟩ = some (.int .u64 (lt : Nat)) ∧ z.cell? ⟨w3.heap.size, 1, none⟩ = some (.int .i64 (lv : Nat)) ∧ Hid (Below (w5.alloc (.cells #[.slice a5 f2.length c5, .bool dn2, .int .i64 fu2] 24)).heap.size (w5.alloc (.cells #[.slice a5 f2.length c5, .bool dn2, .int .i64 fu2] 24)) z)) → Below (w5.alloc (.cells #[.slice a5 f2.length c5, .bool dn2, .int .i64 fu2] 24)).heap.size (w5.alloc (.cells #[.slice a5 f2.length c5, .bool dn2, .int .i64 fu2] 24)) z) := fun z h => h.2.2.2.2.2.2.2.2.2.2.2.2.2.2.2.2.2.2.out
  have K1 : Hid (∀ z, (z.cell? ⟨w.heap.size, 0, none⟩ = some (.slice a fs.length c) ∧ z.cell? ⟨w.heap.size, 1, none⟩ = some (.bool dn) ∧ z.cell? ⟨w.heap.size, 2, none⟩ = some (.int .i64 fu) ∧ z.cell? ⟨w1.heap.size, 0, none⟩ = some (.slice a1 fs.length c1) ∧ z.cell? ⟨w1.heap.size, 1, none⟩ = some (.bool dn) ∧ z.cell? ⟨w1.heap.size, 2, none⟩ = some (.int .i64 fu) ∧ z.cell? ⟨w4.heap.size, 0, none⟩ = some (.slice a4 f2.length c4) ∧ z.cell? ⟨w4.heap.size, 1, none⟩ = some (.bool dn2) ∧ z.cell? ⟨w4.heap.size, 2, none⟩ = some (.int .i64 fu2) ∧ z.cell? ⟨w5.heap.size, 0, none⟩ = some (.slice a5 f2.length c5) ∧ z.cell? ⟨w5.heap.size, 1, none⟩ = some (.bool dn2) ∧ z.cell? ⟨w5.heap.size, 2, none⟩ = some (.int .i64 fu2) ∧ z.cell? ⟨w.heap.size + 1, 0, none⟩ = some (.int .u64 t) ∧ z.cell? ⟨w.heap.size + 1, 1, none⟩ = some (.int .i64 v) ∧ z.cell? ⟨w2.heap.size, 0, none⟩ = some (.int .u64 (lt : Nat)) ∧ z.cell? ⟨w2.heap.size, 1, none⟩ = some (.int .i64 (lv : Nat)) ∧ z.cell? ⟨w3.heap.size, 0, none⟩ = some (.int .u64 (lt : Nat)) ∧ z.cell? ⟨w3.heap.size, 1, none⟩ = some (.int .i64 (lv : Nat)) ∧ Hid (Below (w5.alloc (.cells #[.slice a5 f2.length c5, .bool dn2, .int .i64 fu2] 24)).heap.size (w5.alloc (.cells #[.slice a5 f2.length c5, .bool dn2, .int .i64 fu2] 24)) z)) → Calls Try.prog 13 #[] z fun e z' => e = .returned (.bool true) ∧ (z'.cell? ⟨w.heap.size, 0, none⟩ = some (.slice a fs.length c) ∧ z'.cell? ⟨w.heap.size, 1, none⟩ = some (.bool dn) ∧ z'.cell? ⟨w.heap.size, 2, none⟩ = some (.int .i64 fu) ∧ z'.cell? ⟨w1.heap.size, 0, none⟩ = some (.slice a1 fs.length c1) ∧ z'.cell? ⟨w1.heap.size, 1, none⟩ = some (.bool dn) ∧ z'.cell? ⟨w1.heap.size, 2, none⟩ = some (.int .i64 fu) ∧ z'.cell? ⟨w4.heap.size, 0, none⟩ = some (.slice a4 f2.length c4) ∧ z'.cell? ⟨w4.heap.size, 1, none⟩ = some (.bool dn2) ∧ z'.cell? ⟨w4.heap.size, 2, none⟩ = some (.int .i64 fu2) ∧ z'.cell? ⟨w5.heap.size, 0, none⟩ = some (.slice a5 f2.length c5) ∧ z'.cell? ⟨w5.heap.size, 1, none⟩ = some (.bool dn2) ∧ z'.cell? ⟨w5.heap.size, 2, none⟩ = some (.int .i64 fu2) ∧ z'.cell? ⟨w.heap.size + 1, 0, none⟩ = some (.int .u64 t) ∧ z'.cell? ⟨w.heap.size + 1, 1, none⟩ = some (.int .i64 v) ∧ z'.cell? ⟨w2.heap.size, 0, none⟩ = some (.int .u64 (lt : Nat)) ∧ z'.cell? ⟨w2.heap.size, 1, none⟩ = some (.int .i64 (lv : Nat)) ∧ z'.cell? ⟨w3.heap.size, 0, none⟩ = some (.int .u64 (lt : Nat)) ∧ z'.cell? ⟨w3.heap.size, 1, none⟩ = some (.int .i64 (lv : Nat)) ∧ Hid (Below (w5.alloc (.cells #[.slice a5 f2.length c5, .bool dn2, .int .i64 fu2] 24)).heap.size (w5.alloc (.cells #[.slice a5 f2.length c5, .bool dn2, .int .i64 fu2] 24)) z'))) := fun z h => (hlives z).mono fun e z' ⟨he, hb⟩ => ⟨he, PM.out z' ((PB.out z h).trans (hb.mono (PB.out z h).size))⟩
  have K2 : Hid (∀ z, (z.cell? ⟨w.heap.size, 0, none⟩ = some (.slice a fs.length c) ∧ z.cell? ⟨w.heap.size, 1, none⟩ = some (.bool dn) ∧ z.cell? ⟨w.heap.size, 2, none⟩ = some (.int .i64 fu) ∧ z.cell? ⟨w1.heap.size, 0, none⟩ = some (.slice a1 fs.length c1) ∧ z.cell? ⟨w1.heap.size, 1, none⟩ = some (.bool dn) ∧ z.cell? ⟨w1.heap.size, 2, none⟩ = some (.int .i64 fu) ∧ z.cell? ⟨w4.heap.size, 0, none⟩ = some (.slice a4 f2.length c4) ∧ z.cell? ⟨w4.heap.size, 1, none⟩ = some (.bool dn2) ∧ z.cell? ⟨w4.heap.size, 2, none⟩ = some (.int .i64 fu2) ∧ z.cell? ⟨w5.heap.size, 0, none⟩ = some (.slice a5 f2.length c5) ∧ z.cell? ⟨w5.heap.size, 1, none⟩ = some (.bool dn2) ∧ z.cell? ⟨w5.heap.size, 2, none⟩ = some (.int .i64 fu2) ∧ z.cell? ⟨w.heap.size + 1, 0, none⟩ = some (.int .u64 t) ∧ z.cell? ⟨w.heap.size + 1, 1, none⟩ = some (.int .i64 v) ∧ z.cell? ⟨w2.heap.size, 0, none⟩ = some (.int .u64 (lt : Nat)) ∧ z.cell? ⟨w2.heap.size, 1, none⟩ = some (.int .i64 (lv : Nat)) ∧ z.cell? ⟨w3.heap.size, 0, none⟩ = some (.int .u64 (lt : Nat)) ∧ z.cell? ⟨w3.heap.size, 1, none⟩ = some (.int .i64 (lv : Nat)) ∧ Hid (Below (w5.alloc (.cells #[.slice a5 f2.length c5, .bool dn2, .int .i64 fu2] 24)).heap.size (w5.alloc (.cells #[.slice a5 f2.length c5, .bool dn2, .int .i64 fu2] 24)) z)) → Calls Try.prog 15 #[.agg #[.int .u64 t, .int .i64 v]] z fun e z' => e = .returned (.int .i64 (ck : Nat)) ∧ (z'.cell? ⟨w.heap.size, 0, none⟩ = some (.slice a fs.length c) ∧ z'.cell? ⟨w.heap.size, 1, none⟩ = some (.bool dn) ∧ z'.cell? ⟨w.heap.size, 2, none⟩ = some (.int .i64 fu) ∧ z'.cell? ⟨w1.heap.size, 0, none⟩ = some (.slice a1 fs.length c1) ∧ z'.cell? ⟨w1.heap.size, 1, none⟩ = some (.bool dn) ∧ z'.cell? ⟨w1.heap.size, 2, none⟩ = some (.int .i64 fu) ∧ z'.cell? ⟨w4.heap.size, 0, none⟩ = some (.slice a4 f2.length c4) ∧ z'.cell? ⟨w4.heap.size, 1, none⟩ = some (.bool dn2) ∧ z'.cell? ⟨w4.heap.size, 2, none⟩ = some (.int .i64 fu2) ∧ z'.cell? ⟨w5.heap.size, 0, none⟩ = some (.slice a5 f2.length c5) ∧ z'.cell? ⟨w5.heap.size, 1, none⟩ = some (.bool dn2) ∧ z'.cell? ⟨w5.heap.size, 2, none⟩ = some (.int .i64 fu2) ∧ z'.cell? ⟨w.heap.size + 1, 0, none⟩ = some (.int .u64 t) ∧ z'.cell? ⟨w.heap.size + 1, 1, none⟩ = some (.int .i64 v) ∧ z'.cell? ⟨w2.heap.size, 0, none⟩ = some (.int .u64 (lt : Nat)) ∧ z'.cell? ⟨w2.heap.size, 1, none⟩ = some (.int .i64 (lv : Nat)) ∧ z'.cell? ⟨w3.heap.size, 0, none⟩ = some (.int .u64 (lt : Nat)) ∧ z'.cell? ⟨w3.heap.size, 1, none⟩ = some (.int .i64 (lv : Nat)) ∧ Hid (Below (w5.alloc (.cells #[.slice a5 f2.length c5, .bool dn2, .int .i64 fu2] 24)).heap.size (w5.alloc (.cells #[.slice a5 f2.length c5, .bool dn2, .int .i64 fu2] 24)) z'))) := fun z h => (HC1.out z).mono fun e z' ⟨he, hb⟩ => ⟨he, PM.out z' ((PB.out z h).trans (hb.mono (PB.out z h).size))⟩
  have K3 : Hid (∀ z, (z.cell? ⟨w.heap.size, 0, none⟩ = some (.slice a fs.length c) ∧ z.cell? ⟨w.heap.size, 1, none⟩ = some (.bool dn) ∧ z.cell? ⟨w.heap.size, 2, none⟩ = some (.int .i64 fu) ∧ z.cell? ⟨w1.heap.size, 0, none⟩ = some (.slice a1 fs.length c1) ∧ z.cell? ⟨w1.heap.size, 1, none⟩ = some (.bool dn) ∧ z.cell? ⟨w1.heap.size, 2, none⟩ = some (.int .i64 fu) ∧ z.cell? ⟨w4.heap.size, 0, none⟩ = some (.slice a4 f2.length c4) ∧ z.cell? ⟨w4.heap.size, 1, none⟩ = some (.bool dn2) ∧ z.cell? ⟨w4.heap.size, 2, none⟩ = some (.int .i64 fu2) ∧ z.cell? ⟨w5.heap.size, 0, none⟩ = some (.slice a5 f2.length c5) ∧ z.cell? ⟨w5.heap.size, 1, none⟩ = some (.bool dn2) ∧ z.cell? ⟨w5.heap.size, 2, none⟩ = some (.int .i64 fu2) ∧ z.cell? ⟨w.heap.size + 1, 0, none⟩ = some (.int .u64 t) ∧ z.cell? ⟨w.heap.size + 1, 1, none⟩ = some (.int .i64 v) ∧ z.cell? ⟨w2.heap.size, 0, none⟩ = some (.int .u64 (lt : Nat)) ∧ z.cell? ⟨w2.heap.size, 1, none⟩ = some (.int .i64 (lv : Nat)) ∧ z.cell? ⟨w3.heap.size, 0, none⟩ = some (.int .u64 (lt : Nat)) ∧ z.cell? ⟨w3.heap.size, 1, none⟩ = some (.int .i64 (lv : Nat)) ∧ Hid (Below (w5.alloc (.cells #[.slice a5 f2.length c5, .bool dn2, .int .i64 fu2] 24)).heap.size (w5.alloc (.cells #[.slice a5 f2.length c5, .bool dn2, .int .i64 fu2] 24)) z)) → Calls Try.prog 16 #[.agg #[.int .u64 t, .int .i64 v]] z fun e z' => e = .returned (.int .i64 (ck : Nat)) ∧ (z'.cell? ⟨w.heap.size, 0, none⟩ = some (.slice a fs.length c) ∧ z'.cell? ⟨w.heap.size, 1, none⟩ = some (.bool dn) ∧ z'.cell? ⟨w.heap.size, 2, none⟩ = some (.int .i64 fu) ∧ z'.cell? ⟨w1.heap.size, 0, none⟩ = some (.slice a1 fs.length c1) ∧ z'.cell? ⟨w1.heap.size, 1, none⟩ = some (.bool dn) ∧ z'.cell? ⟨w1.heap.size, 2, none⟩ = some (.int .i64 fu) ∧ z'.cell? ⟨w4.heap.size, 0, none⟩ = some (.slice a4 f2.length c4) ∧ z'.cell? ⟨w4.heap.size, 1, none⟩ = some (.bool dn2) ∧ z'.cell? ⟨w4.heap.size, 2, none⟩ = some (.int .i64 fu2) ∧ z'.cell? ⟨w5.heap.size, 0, none⟩ = some (.slice a5 f2.length c5) ∧ z'.cell? ⟨w5.heap.size, 1, none⟩ = some (.bool dn2) ∧ z'.cell? ⟨w5.heap.size, 2, none⟩ = some (.int .i64 fu2) ∧ z'.cell? ⟨w.heap.size + 1, 0, none⟩ = some (.int .u64 t) ∧ z'.cell? ⟨w.heap.size + 1, 1, none⟩ = some (.int .i64 v) ∧ z'.cell? ⟨w2.heap.size, 0, none⟩ = some (.int .u64 (lt : Nat)) ∧ z'.cell? ⟨w2.heap.size, 1, none⟩ = some (.int .i64 (lv : Nat)) ∧ z'.cell? ⟨w3.heap.size, 0, none⟩ = some (.int .u64 (lt : Nat)) ∧ z'.cell? ⟨w3.heap.size, 1, none⟩ = some (.int .i64 (lv : Nat)) ∧ Hid (Below (w5.alloc (.cells #[.slice a5 f2.length c5, .bool dn2, .int .i64 fu2] 24)).heap.size (w5.alloc (.cells #[.slice a5 f2.length c5, .bool dn2, .int .i64 fu2] 24)) z'))) := fun z h => (HC2.out z).mono fun e z' ⟨he, hb⟩ => ⟨he, PM.out z' ((PB.out z h).trans (hb.mono (PB.out z h).size))⟩
  have K4 : Hid (∀ z, (z.cell? ⟨w.heap.size, 0, none⟩ = some (.slice a fs.length c) ∧ z.cell? ⟨w.heap.size, 1, none⟩ = some (.bool dn) ∧ z.cell? ⟨w.heap.size, 2, none⟩ = some (.int .i64 fu) ∧ z.cell? ⟨w1.heap.size, 0, none⟩ = some (.slice a1 fs.length c1) ∧ z.cell? ⟨w1.heap.size, 1, none⟩ = some (.bool dn) ∧ z.cell? ⟨w1.heap.size, 2, none⟩ = some (.int .i64 fu) ∧ z.cell? ⟨w4.heap.size, 0, none⟩ = some (.slice a4 f2.length c4) ∧ z.cell? ⟨w4.heap.size, 1, none⟩ = some (.bool dn2) ∧ z.cell? ⟨w4.heap.size, 2, none⟩ = some (.int .i64 fu2) ∧ z.cell? ⟨w5.heap.size, 0, none⟩ = some (.slice a5 f2.length c5) ∧ z.cell? ⟨w5.heap.size, 1, none⟩ = some (.bool dn2) ∧ z.cell? ⟨w5.heap.size, 2, none⟩ = some (.int .i64 fu2) ∧ z.cell? ⟨w.heap.size + 1, 0, none⟩ = some (.int .u64 t) ∧ z.cell? ⟨w.heap.size + 1, 1, none⟩ = some (.int .i64 v) ∧ z.cell? ⟨w2.heap.size, 0, none⟩ = some (.int .u64 (lt : Nat)) ∧ z.cell? ⟨w2.heap.size, 1, none⟩ = some (.int .i64 (lv : Nat)) ∧ z.cell? ⟨w3.heap.size, 0, none⟩ = some (.int .u64 (lt : Nat)) ∧ z.cell? ⟨w3.heap.size, 1, none⟩ = some (.int .i64 (lv : Nat)) ∧ Hid (Below (w5.alloc (.cells #[.slice a5 f2.length c5, .bool dn2, .int .i64 fu2] 24)).heap.size (w5.alloc (.cells #[.slice a5 f2.length c5, .bool dn2, .int .i64 fu2] 24)) z)) → Calls Try.prog 14 #[.agg #[.slice a4 f2.length c4, .bool dn2, .int .i64 fu2], .agg #[.slice a5 f2.length c5, .bool dn2, .int .i64 fu2]] z fun e z' => e = .returned (.bool true) ∧ (z'.cell? ⟨w.heap.size, 0, none⟩ = some (.slice a fs.length c) ∧ z'.cell? ⟨w.heap.size, 1, none⟩ = some (.bool dn) ∧ z'.cell? ⟨w.heap.size, 2, none⟩ = some (.int .i64 fu) ∧ z'.cell? ⟨w1.heap.size, 0, none⟩ = some (.slice a1 fs.length c1) ∧ z'.cell? ⟨w1.heap.size, 1, none⟩ = some (.bool dn) ∧ z'.cell? ⟨w1.heap.size, 2, none⟩ = some (.int .i64 fu) ∧ z'.cell? ⟨w4.heap.size, 0, none⟩ = some (.slice a4 f2.length c4) ∧ z'.cell? ⟨w4.heap.size, 1, none⟩ = some (.bool dn2) ∧ z'.cell? ⟨w4.heap.size, 2, none⟩ = some (.int .i64 fu2) ∧ z'.cell? ⟨w5.heap.size, 0, none⟩ = some (.slice a5 f2.length c5) ∧ z'.cell? ⟨w5.heap.size, 1, none⟩ = some (.bool dn2) ∧ z'.cell? ⟨w5.heap.size, 2, none⟩ = some (.int .i64 fu2) ∧ z'.cell? ⟨w.heap.size + 1, 0, none⟩ = some (.int .u64 t) ∧ z'.cell? ⟨w.heap.size + 1, 1, none⟩ = some (.int .i64 v) ∧ z'.cell? ⟨w2.heap.size, 0, none⟩ = some (.int .u64 (lt : Nat)) ∧ z'.cell? ⟨w2.heap.size, 1, none⟩ = some (.int .i64 (lv : Nat)) ∧ z'.cell? ⟨w3.heap.size, 0, none⟩ = some (.int .u64 (lt : Nat)) ∧ z'.cell? ⟨w3.heap.size, 1, none⟩ = some (.int .i64 (lv : Nat)) ∧ Hid (Below (w5.alloc (.cells #[.slice a5 f2.length c5, .bool dn2, .int .i64 fu2] 24)).heap.size (w5.alloc (.cells #[.slice a5 f2.length c5, .bool dn2, .int .i64 fu2] 24)) z'))) := fun z h => (same_ref _ _ _ _ _ _ _ _ _ (HX5.out.keep (PB.out z h)).files (HY5.out.keep (PB.out z h)).files).mono fun e z' ⟨⟨b, he, hbt⟩, hb⟩ => ⟨by rw [he, hbt.2 ⟨rfl, rfl, rfl⟩], PM.out z' ((PB.out z h).trans (hb.mono (PB.out z h).size))⟩
  have K5 : Hid (∀ z, (z.cell? ⟨w.heap.size, 0, none⟩ = some (.slice a fs.length c) ∧ z.cell? ⟨w.heap.size, 1, none⟩ = some (.bool dn) ∧ z.cell? ⟨w.heap.size, 2, none⟩ = some (.int .i64 fu) ∧ z.cell? ⟨w1.heap.size, 0, none⟩ = some (.slice a1 fs.length c1) ∧ z.cell? ⟨w1.heap.size, 1, none⟩ = some (.bool dn) ∧ z.cell? ⟨w1.heap.size, 2, none⟩ = some (.int .i64 fu) ∧ z.cell? ⟨w4.heap.size, 0, none⟩ = some (.slice a4 f2.length c4) ∧ z.cell? ⟨w4.heap.size, 1, none⟩ = some (.bool dn2) ∧ z.cell? ⟨w4.heap.size, 2, none⟩ = some (.int .i64 fu2) ∧ z.cell? ⟨w5.heap.size, 0, none⟩ = some (.slice a5 f2.length c5) ∧ z.cell? ⟨w5.heap.size, 1, none⟩ = some (.bool dn2) ∧ z.cell? ⟨w5.heap.size, 2, none⟩ = some (.int .i64 fu2) ∧ z.cell? ⟨w.heap.size + 1, 0, none⟩ = some (.int .u64 t) ∧ z.cell? ⟨w.heap.size + 1, 1, none⟩ = some (.int .i64 v) ∧ z.cell? ⟨w2.heap.size, 0, none⟩ = some (.int .u64 (lt : Nat)) ∧ z.cell? ⟨w2.heap.size, 1, none⟩ = some (.int .i64 (lv : Nat)) ∧ z.cell? ⟨w3.heap.size, 0, none⟩ = some (.int .u64 (lt : Nat)) ∧ z.cell? ⟨w3.heap.size, 1, none⟩ = some (.int .i64 (lv : Nat)) ∧ Hid (Below (w5.alloc (.cells #[.slice a5 f2.length c5, .bool dn2, .int .i64 fu2] 24)).heap.size (w5.alloc (.cells #[.slice a5 f2.length c5, .bool dn2, .int .i64 fu2] 24)) z)) → Calls Try.prog 14 #[.agg #[.slice a1 fs.length c1, .bool dn, .int .i64 fu], .agg #[.slice a fs.length c, .bool dn, .int .i64 fu]] z fun e z' => e = .returned (.bool true) ∧ (z'.cell? ⟨w.heap.size, 0, none⟩ = some (.slice a fs.length c) ∧ z'.cell? ⟨w.heap.size, 1, none⟩ = some (.bool dn) ∧ z'.cell? ⟨w.heap.size, 2, none⟩ = some (.int .i64 fu) ∧ z'.cell? ⟨w1.heap.size, 0, none⟩ = some (.slice a1 fs.length c1) ∧ z'.cell? ⟨w1.heap.size, 1, none⟩ = some (.bool dn) ∧ z'.cell? ⟨w1.heap.size, 2, none⟩ = some (.int .i64 fu) ∧ z'.cell? ⟨w4.heap.size, 0, none⟩ = some (.slice a4 f2.length c4) ∧ z'.cell? ⟨w4.heap.size, 1, none⟩ = some (.bool dn2) ∧ z'.cell? ⟨w4.heap.size, 2, none⟩ = some (.int .i64 fu2) ∧ z'.cell? ⟨w5.heap.size, 0, none⟩ = some (.slice a5 f2.length c5) ∧ z'.cell? ⟨w5.heap.size, 1, none⟩ = some (.bool dn2) ∧ z'.cell? ⟨w5.heap.size, 2, none⟩ = some (.int .i64 fu2) ∧ z'.cell? ⟨w.heap.size + 1, 0, none⟩ = some (.int .u64 t) ∧ z'.cell? ⟨w.heap.size + 1, 1, none⟩ = some (.int .i64 v) ∧ z'.cell? ⟨w2.heap.size, 0, none⟩ = some (.int .u64 (lt : Nat)) ∧ z'.cell? ⟨w2.heap.size, 1, none⟩ = some (.int .i64 (lv : Nat)) ∧ z'.cell? ⟨w3.heap.size, 0, none⟩ = some (.int .u64 (lt : Nat)) ∧ z'.cell? ⟨w3.heap.size, 1, none⟩ = some (.int .i64 (lv : Nat)) ∧ Hid (Below (w5.alloc (.cells #[.slice a5 f2.length c5, .bool dn2, .int .i64 fu2] 24)).heap.size (w5.alloc (.cells #[.slice a5 f2.length c5, .bool dn2, .int .i64 fu2] 24)) z'))) := fun z h => (same_ref _ _ _ _ _ _ _ _ _ (HG5.out.keep (PB.out z h)).files (HD5.out.keep (PB.out z h)).files).mono fun e z' ⟨⟨b, he, hbt⟩, hb⟩ => ⟨by rw [he, hbt.2 ⟨rfl, rfl, rfl⟩], PM.out z' ((PB.out z h).trans (hb.mono (PB.out z h).size))⟩
  have KD : Hid ((w5.alloc (.cells #[.slice a5 f2.length c5, .bool dn2, .int .i64 fu2] 24)).drew.cell? ⟨w.heap.size, 0, none⟩ = some (.slice a fs.length c) ∧ (w5.alloc (.cells #[.slice a5 f2.length c5, .bool dn2, .int .i64 fu2] 24)).drew.cell? ⟨w.heap.size, 1, none⟩ = some (.bool dn) ∧ (w5.alloc (.cells #[.slice a5 f2.length c5, .bool dn2, .int .i64 fu2] 24)).drew.cell? ⟨w.heap.size, 2, none⟩ = some (.int .i64 fu) ∧ (w5.alloc (.cells #[.slice a5 f2.length c5, .bool dn2, .int .i64 fu2] 24)).drew.cell? ⟨w1.heap.size, 0, none⟩ = some (.slice a1 fs.length c1) ∧ (w5.alloc (.cells #[.slice a5 f2.length c5, .bool dn2, .int .i64 fu2] 24)).drew.cell? ⟨w1.heap.size, 1, none⟩ = some (.bool dn) ∧ (w5.alloc (.cells #[.slice a5 f2.length c5, .bool dn2, .int .i64 fu2] 24)).drew.cell? ⟨w1.heap.size, 2, none⟩ = some (.int .i64 fu) ∧ (w5.alloc (.cells #[.slice a5 f2.length c5, .bool dn2, .int .i64 fu2] 24)).drew.cell? ⟨w4.heap.size, 0, none⟩ = some (.slice a4 f2.length c4) ∧ (w5.alloc (.cells #[.slice a5 f2.length c5, .bool dn2, .int .i64 fu2] 24)).drew.cell? ⟨w4.heap.size, 1, none⟩ = some (.bool dn2) ∧ (w5.alloc (.cells #[.slice a5 f2.length c5, .bool dn2, .int .i64 fu2] 24)).drew.cell? ⟨w4.heap.size, 2, none⟩ = some (.int .i64 fu2) ∧ (w5.alloc (.cells #[.slice a5 f2.length c5, .bool dn2, .int .i64 fu2] 24)).drew.cell? ⟨w5.heap.size, 0, none⟩ = some (.slice a5 f2.length c5) ∧ (w5.alloc (.cells #[.slice a5 f2.length c5, .bool dn2, .int .i64 fu2] 24)).drew.cell? ⟨w5.heap.size, 1, none⟩ = some (.bool dn2) ∧ (w5.alloc (.cells #[.slice a5 f2.length c5, .bool dn2, .int .i64 fu2] 24)).drew.cell? ⟨w5.heap.size, 2, none⟩ = some (.int .i64 fu2) ∧ (w5.alloc (.cells #[.slice a5 f2.length c5, .bool dn2, .int .i64 fu2] 24)).drew.cell? ⟨w.heap.size + 1, 0, none⟩ = some (.int .u64 t) ∧ (w5.alloc (.cells #[.slice a5 f2.length c5, .bool dn2, .int .i64 fu2] 24)).drew.cell? ⟨w.heap.size + 1, 1, none⟩ = some (.int .i64 v) ∧ (w5.alloc (.cells #[.slice a5 f2.length c5, .bool dn2, .int .i64 fu2] 24)).drew.cell? ⟨w2.heap.size, 0, none⟩ = some (.int .u64 (lt : Nat)) ∧ (w5.alloc (.cells #[.slice a5 f2.length c5, .bool dn2, .int .i64 fu2] 24)).drew.cell? ⟨w2.heap.size, 1, none⟩ = some (.int .i64 (lv : Nat)) ∧ (w5.alloc (.cells #[.slice a5 f2.length c5, .bool dn2, .int .i64 fu2] 24)).drew.cell? ⟨w3.heap.size, 0, none⟩ = some (.int .u64 (lt : Nat)) ∧ (w5.alloc (.cells #[.slice a5 f2.length c5, .bool dn2, .int .i64 fu2] 24)).drew.cell? ⟨w3.heap.size, 1, none⟩ = some (.int .i64 (lv : Nat)) ∧ Hid (Below (w5.alloc (.cells #[.slice a5 f2.length c5, .bool dn2, .int .i64 fu2] 24)).heap.size (w5.alloc (.cells #[.slice a5 f2.length c5, .bool dn2, .int .i64 fu2] 24)) (w5.alloc (.cells #[.slice a5 f2.length c5, .bool dn2, .int .i64 fu2] 24)).drew)) := PM.out _ (Below.refl _ _).drew
  have KE : Hid (Below w.heap.size w (w5.alloc (.cells #[.slice a5 f2.length c5, .bool dn2, .int .i64 fu2] 24))) := HY5.out.below
  have KZ : Hid (w.heap.size ≤ (w5.alloc (.cells #[.slice a5 f2.length c5, .bool dn2, .int .i64 fu2] 24)).heap.size) := HY5.out.below.size
  have heq := HEQ.out lt lv lt lv
  rw [eqHd_self] at heq
  clear fd0 fd1 fd2 fdl fg0 fg1 fg2 fgl fx0 fx1 fx2 fxl fh0 fh1 fhl fa0 fa1 fal fb0 fb1 fbl
  clear PM HC1 HC2 HL1 HL2 HS1 HS2 HCO HEQ HY5' HF HL HV
  go_wp2
  go_region_held3 (fun z => z.cell? ⟨w.heap.size, 0, none⟩ = some (.slice a fs.length c) ∧ z.cell? ⟨w.heap.size, 1, none⟩ = some (.bool dn) ∧ z.cell? ⟨w.heap.size, 2, none⟩ = some (.int .i64 fu) ∧ z.cell? ⟨w1.heap.size, 0, none⟩ = some (.slice a1 fs.length c1) ∧ z.cell? ⟨w1.heap.size, 1, none⟩ = some (.bool dn) ∧ z.cell? ⟨w1.heap.size, 2, none⟩ = some (.int .i64 fu) ∧ z.cell? ⟨w4.heap.size, 0, none⟩ = some (.slice a4 f2.length c4) ∧ z.cell? ⟨w4.heap.size, 1, none⟩ = some (.bool dn2) ∧ z.cell? ⟨w4.heap.size, 2, none⟩ = some (.int .i64 fu2) ∧ z.cell? ⟨w5.heap.size, 0, none⟩ = some (.slice a5 f2.length c5) ∧ z.cell? ⟨w5.heap.size, 1, none⟩ = some (.bool dn2) ∧ z.cell? ⟨w5.heap.size, 2, none⟩ = some (.int .i64 fu2) ∧ z.cell? ⟨w.heap.size + 1, 0, none⟩ = some (.int .u64 t) ∧ z.cell? ⟨w.heap.size + 1, 1, none⟩ = some (.int .i64 v) ∧ z.cell? ⟨w2.heap.size, 0, none⟩ = some (.int .u64 (lt : Nat)) ∧ z.cell? ⟨w2.heap.size, 1, none⟩ = some (.int .i64 (lv : Nat)) ∧ z.cell? ⟨w3.heap.size, 0, none⟩ = some (.int .u64 (lt : Nat)) ∧ z.cell? ⟨w3.heap.size, 1, none⟩ = some (.int .i64 (lv : Nat)) ∧ Hid (Below (w5.alloc (.cells #[.slice a5 f2.length c5, .bool dn2, .int .i64 fu2] 24)).heap.size (w5.alloc (.cells #[.slice a5 f2.length c5, .bool dn2, .int .i64 fu2] 24)) z)) (first | assumption | exact KD.out)
    (first
      | (go_at_call 13; (with_reducible refine (K1.out _ ?_).mono ?_); assumption; rintro e w7 ⟨rfl, hS⟩)
      | (go_at_call 15; (with_reducible refine (K2.out _ ?_).mono ?_); assumption; rintro e w7 ⟨rfl, hS⟩)
      | (go_at_call 16; (with_reducible refine (K3.out _ ?_).mono ?_); assumption; rintro e w7 ⟨rfl, hS⟩)
      | (go_at_call 14; (with_reducible refine (K4.out _ ?_).mono ?_); assumption; rintro e w7 ⟨rfl, hS⟩)
      | (go_at_call 14; (with_reducible refine (K5.out _ ?_).mono ?_); assumption; rintro e w7 ⟨rfl, hS⟩))
  all_goals
    have HB7 := Lib.hid (PB.out _ hS)
    clear hS K1 K2 K3 K4 K5 KD PB
    go_wp2
    go_ret
    exact ⟨rfl, KE.out.trans (HB7.out.mono KZ.out)⟩
end Dk
end Go.Proofs.Ytpncflgcfndhmaa
