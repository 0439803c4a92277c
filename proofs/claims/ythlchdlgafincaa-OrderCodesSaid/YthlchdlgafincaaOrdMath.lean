/-
  THE BYTES OF A COMMAND, there and back.
-/
import Derived.Test.YthlchdlgafincaaPackForth
import Derived.Test.YthlchdlgafincaaOrdDec
import Derived.Test.YthlchdlgafincaaOrdLaw1
namespace Go.Proofs.Ythlchdlgafincaa
open Go.RowKit
namespace Hd
open PM Hc
theorem num_ne (n : Nat) : num n ≠ [] := by simp [num]
theorem txt_ne (l : List UInt8) : txt l ≠ [] := by simp [txt, num]
/-- A part that is taken: with no wrong the bytes that stood there, and those were some; with something left none was wrong. -/
def Fw (l bytes rest : List UInt8) (b : Bool) : Prop := (b = false → bytes ++ rest = l ∧ l ≠ []) ∧ (rest ≠ [] → b = false)
theorem app_ne {a b l : List UInt8} (h : a ++ b = l) (ha : a ≠ []) : l ≠ [] := by
  intro e
  rw [e] at h
  exact ha (List.append_eq_nil_iff.1 h).1
theorem Fw.then {l a m c r : List UInt8} {x y : Bool} (h : Fw l a m x) (k : Fw m c r y) : Fw l (a ++ c) r y := by
  refine ⟨fun hy => ?_, k.2⟩
  obtain ⟨k1, k2⟩ := k.1 hy
  obtain ⟨h1, h2⟩ := h.1 (h.2 k2)
  exact ⟨by rw [List.append_assoc, k1, h1], h2⟩
theorem fw_num (l : List UInt8) : Fw l (num (tnN l)) (tnR l) (decide (tnW l ≠ 0)) := by
  refine ⟨fun h => ?_, fun h => ?_⟩
  · have h0 : tnW l = 0 := by simpa using h
    have := tn_forth l h0
    exact ⟨this, app_ne this (num_ne _)⟩
  · have := tnR_ne l h
    simpa using this
theorem fw_txt (l : List UInt8) : Fw l (txt (ttT l)) (ttR l) (decide (ttW l ≠ 0)) := by
  refine ⟨fun h => ?_, fun h => ?_⟩
  · have h0 : ttW l = 0 := by simpa using h
    have := tt_forth l h0
    exact ⟨this, app_ne this (txt_ne _)⟩
  · have : ttW l = 0 := by
      unfold ttR at h
      split at h
      · assumption
      · exact absurd rfl h
    simpa using this
theorem fw_up (m : Nat) (l : List UInt8) : Fw l (num (upV m l)) (upR m l) (upB m l) := by
  refine ⟨fun h => ?_, fun h => ?_⟩
  · unfold upB at h
    split at h
    · cases h
    · rename_i h1
      have h0 : tnW l = 0 := by simpa using h
      have := tn_forth l h0
      unfold upV upR
      rw [if_neg h1, if_neg h1]
      exact ⟨this, app_ne this (num_ne _)⟩
  · unfold upR at h
    split at h
    · exact absurd rfl h
    · rename_i h1
      have := tnR_ne l h
      unfold upB
      rw [if_neg h1]
      simpa using this
theorem fw_am (l : List UInt8) (b : Bool) : Fw l (amB (taV l 0) (taV l 1) (taV l 2)) (taR l 3) (taB l b 3) :=
  ((fw_up amM l).then (fw_up amM (taR l 1))).then (fw_up amM (taR l 2))
theorem bs_dat (l : List UInt8) : (bs l).data.toList = l := bs_data l
theorem fw_pa (l : List UInt8) : ∀ k, Fw l (num (upV 4 l) ++ (paL l k).flatMap prF) (paR l k) (paB l k)
  | 0 => by
    have := fw_up 4 l
    rw [show (paL l 0).flatMap prF = [] from rfl, List.append_nil]
    exact this
  | k + 1 => by
    have h1 := (fw_pa l k).then ((fw_txt (paR l k)).then (fw_txt (ttR (paR l k))))
    have e : num (upV 4 l) ++ (paL l (k + 1)).flatMap prF = num (upV 4 l) ++ (paL l k).flatMap prF ++ (txt (ttT (paR l k)) ++ txt (ttT (ttR (paR l k)))) := by
      rw [paL, List.flatMap_append, List.append_assoc]
      simp [prF, bs_dat]
    rw [e]
    exact h1
theorem fw_pr (l : List UInt8) : Fw l (prB (prL l)) (prR l) (prW l) := by
  have := fw_pa l (upV 4 l)
  unfold prB
  rw [show (prL l).length = upV 4 l from paL_length _ _]
  exact this
theorem toNat_cast (n : Nat) : ((n : Nat) : Int).toNat = n := by simp
theorem fw_nd (l : List UInt8) : Fw l (ndY (ndT l)) (ndR l) (ndX l) := by
  have := (((fw_txt l).then (fw_am (ttR l) false)).then (fw_pr (taR (ttR l) 3))).then (fw_pr (prR (taR (ttR l) 3)))
  have e : ndY (ndT l) = txt (ttT l) ++ amB (taV (ttR l) 0) (taV (ttR l) 1) (taV (ttR l) 2) ++ prB (prL (taR (ttR l) 3)) ++ prB (prL (prR (taR (ttR l) 3))) := by
    simp only [ndY, ndT, ndB, bs_dat, toNat_cast]
  rw [e]
  exact this
theorem fw_td (l : List UInt8) : Fw l (tdY (tkT l)) (tkR l) (tkX l) := by
  have h0 := (((fw_txt l).then (fw_am (ttR l) false)).then (fw_pr (taR (ttR l) 3))).then (fw_pr (prR (taR (ttR l) 3)))
  have h1 := ((h0.then (fw_txt (ndR l))).then (fw_txt (ttR (ndR l)))).then (fw_up 2000 (ttR (ttR (ndR l))))
  have e0 : (((upV 2000 (ttR (ttR (ndR l))) : Nat) : Int) - 1000 + 1000).toNat = upV 2000 (ttR (ttR (ndR l))) := by omega
  have e : tdY (tkT l) = txt (ttT l) ++ amB (taV (ttR l) 0) (taV (ttR l) 1) (taV (ttR l) 2) ++ prB (prL (taR (ttR l) 3)) ++ prB (prL (prR (taR (ttR l) 3))) ++ txt (ttT (ndR l)) ++ txt (ttT (ttR (ndR l))) ++ num (upV 2000 (ttR (ttR (ndR l)))) := by
    simp only [tdY, tkT, tsB, bs_dat, toNat_cast, e0]
  rw [e]
  exact h1
theorem fw_fd (cl sq k : Nat) (l : List UInt8) : Fw l (fdY (fdT cl sq k l)) (fdR k l) (fdB k l) := by
  unfold fdT fdR fdB
  by_cases k1 : k = 1
  · rw [if_pos k1, if_pos k1, if_pos k1]
    have : fdY ⟨cl, sq, k, ndT l, td0, ⟨#[]⟩, ⟨#[]⟩, 0⟩ = ndY (ndT l) := if_pos k1
    rw [this]
    exact fw_nd l
  · rw [if_neg k1, if_neg k1, if_neg k1]
    by_cases k3 : k = 3
    · rw [if_pos k3, if_pos k3, if_pos k3]
      have : fdY ⟨cl, sq, k, nd0, tkT l, ⟨#[]⟩, ⟨#[]⟩, 0⟩ = tdY (tkT l) := (if_neg k1).trans (if_pos k3)
      rw [this]
      exact fw_td l
    · rw [if_neg k3, if_neg k3, if_neg k3]
      by_cases k5 : k = 5
      · rw [if_pos k5, if_pos k5, if_pos k5]
        have : fdY ⟨cl, sq, k, nd0, td0, bs (ttT l), bs (ttT (ttR l)), tnN (ttR (ttR l))⟩ = txt (ttT l) ++ txt (ttT (ttR l)) ++ num (tnN (ttR (ttR l))) := by
          refine ((if_neg k1).trans ((if_neg k3).trans (if_pos k5))).trans ?_
          simp only [bs_dat]
        rw [this]
        exact ((fw_txt l).then (fw_txt (ttR l))).then (fw_num (ttR (ttR l)))
      · rw [if_neg k5, if_neg k5, if_neg k5]
        have : fdY ⟨cl, sq, k, nd0, td0, bs (ttT l), ⟨#[]⟩, 0⟩ = txt (ttT l) := by
          refine ((if_neg k1).trans ((if_neg k3).trans (if_neg k5))).trans ?_
          simp only [bs_dat]
        rw [this]
        exact fw_txt l
theorem fdT_hd (cl sq k : Nat) (l : List UInt8) : (fdT cl sq k l).cl = cl ∧ (fdT cl sq k l).sq = sq ∧ (fdT cl sq k l).k = k := by
  unfold fdT
  split
  · exact ⟨rfl, rfl, rfl⟩
  · split
    · exact ⟨rfl, rfl, rfl⟩
    · split <;> exact ⟨rfl, rfl, rfl⟩
theorem fw_cm (l : List UInt8) : Fw l (cmY (cmT l)) (cmR l) (cmB l) := by
  obtain ⟨a, b, c⟩ := fdT_hd (tnN l) (tnN (tnR l)) (cmK l) (cmF l)
  have h := ((((fw_num l).then (fw_num (tnR l))).then (fw_up 8 (tnR (tnR l)))).then (fw_fd (tnN l) (tnN (tnR l)) (cmK l) (cmF l)))
  have e : cmY (cmT l) = num (tnN l) ++ num (tnN (tnR l)) ++ num (upV 8 (tnR (tnR l))) ++ fdY (cmT l) := by
    unfold cmY cmT
    rw [a, b, c]
    rfl
  rw [e]
  exact h
/-- What is read as a right command is its bytes. -/
theorem cm_forth {l : List UInt8} (h : dcOk l = true) : cmY (cmT l) = l ∧ ckB (cmT l) = true := by
  unfold dcOk cmN at h
  simp only [Bool.and_eq_true] at h
  obtain ⟨⟨h1, h2⟩, h3⟩ := h
  have hb : cmB l = false := by simpa using h1
  have hr : cmR l = [] := List.isEmpty_iff.1 h2
  have := ((fw_cm l).1 hb).1
  rw [hr, List.append_nil] at this
  exact ⟨this, h3⟩
/-! Back. -/
theorem up_bk (m n : Nat) (hn : n ≤ m) (hm : m < 2 ^ 64) (r : List UInt8) : upV m (num n ++ r) = n ∧ upR m (num n ++ r) = r ∧ upB m (num n ++ r) = false := by
  obtain ⟨a, b, c⟩ := tn_back n (by omega) r
  unfold upV upR upB
  rw [b, if_neg (by omega), if_neg (by omega), if_neg (by omega), a, c]
  exact ⟨rfl, rfl, rfl⟩
theorem tt_bk (s : ByteArray) (hs : s.size ≤ 32) (r : List UInt8) : ttW (txt s.data.toList ++ r) = 0 ∧ bs (ttT (txt s.data.toList ++ r)) = s ∧ ttR (txt s.data.toList ++ r) = r := by
  obtain ⟨a, b, c⟩ := tt_back s.data.toList r (by show ¬ 65536 < s.size; omega)
  exact ⟨a, by rw [b, bs_of], c⟩
theorem am_bk (a0 a1 a2 : Nat) (h0 : a0 ≤ amM) (h1 : a1 ≤ amM) (h2 : a2 ≤ amM) (r : List UInt8) :
    taV (amB a0 a1 a2 ++ r) 0 = a0 ∧ taV (amB a0 a1 a2 ++ r) 1 = a1 ∧ taV (amB a0 a1 a2 ++ r) 2 = a2 ∧ taR (amB a0 a1 a2 ++ r) 3 = r := by
  have hm : amM < 2 ^ 64 := by decide
  have e : amB a0 a1 a2 ++ r = num a0 ++ (num a1 ++ (num a2 ++ r)) := by unfold amB; simp only [List.append_assoc]
  obtain ⟨v0, r0, -⟩ := up_bk amM a0 h0 hm (num a1 ++ (num a2 ++ r))
  obtain ⟨v1, r1, -⟩ := up_bk amM a1 h1 hm (num a2 ++ r)
  obtain ⟨v2, r2, -⟩ := up_bk amM a2 h2 hm r
  have t1 : taR (amB a0 a1 a2 ++ r) 1 = num a1 ++ (num a2 ++ r) := by show upR amM (amB a0 a1 a2 ++ r) = _; rw [e, r0]
  have t2 : taR (amB a0 a1 a2 ++ r) 2 = num a2 ++ r := by show upR amM (taR (amB a0 a1 a2 ++ r) 1) = _; rw [t1, r1]
  refine ⟨?_, ?_, ?_, ?_⟩
  · show upV amM (amB a0 a1 a2 ++ r) = _; rw [e, v0]
  · show upV amM (taR (amB a0 a1 a2 ++ r) 1) = _; rw [t1, v1]
  · show upV amM (taR (amB a0 a1 a2 ++ r) 2) = _; rw [t2, v2]
  · show upR amM (taR (amB a0 a1 a2 ++ r) 2) = _; rw [t2, r2]
theorem pa_bk (ps : List Rg.Pr) (hs : SmP ps) (r : List UInt8) : ∀ k, k ≤ ps.length → paL (prB ps ++ r) k = ps.take k ∧ paR (prB ps ++ r) k = (ps.drop k).flatMap prF ++ r ∧ paB (prB ps ++ r) k = false
  | 0, _ => by
    obtain ⟨a, b, c⟩ := up_bk 4 ps.length hs.1 (by decide) (ps.flatMap prF ++ r)
    have e : prB ps ++ r = num ps.length ++ (ps.flatMap prF ++ r) := by unfold prB; rw [List.append_assoc]
    refine ⟨by simp [paL], ?_, ?_⟩
    · show upR 4 (prB ps ++ r) = _
      rw [e, b]; simp
    · show upB 4 (prB ps ++ r) = _
      rw [e, c]
  | k + 1, hk => by
    obtain ⟨h1, h2, h3⟩ := pa_bk ps hs r k (by omega)
    have hlt : k < ps.length := by omega
    obtain ⟨s1, s2⟩ := hs.2 _ (List.getElem_mem hlt)
    have e : (ps.drop k).flatMap prF ++ r = txt ps[k].k.data.toList ++ (txt ps[k].v.data.toList ++ ((ps.drop (k + 1)).flatMap prF ++ r)) := by
      rw [List.drop_eq_getElem_cons hlt, List.flatMap_cons]
      unfold prF
      simp only [List.append_assoc]
    obtain ⟨w1, t1, r1⟩ := tt_bk ps[k].k s1 (txt ps[k].v.data.toList ++ ((ps.drop (k + 1)).flatMap prF ++ r))
    obtain ⟨w2, t2, r2⟩ := tt_bk ps[k].v s2 ((ps.drop (k + 1)).flatMap prF ++ r)
    refine ⟨?_, ?_, ?_⟩
    · show paL (prB ps ++ r) k ++ [_] = _
      rw [h1, h2, e, t1, r1, t2, List.take_add_one, List.getElem?_eq_getElem hlt]
      rfl
    · show ttR (ttR (paR (prB ps ++ r) k)) = _
      rw [h2, e, r1, r2]
    · show decide (ttW (ttR (paR (prB ps ++ r) k)) ≠ 0) = _
      rw [h2, e, r1, w2]
      rfl
theorem pr_bk (ps : List Rg.Pr) (hs : SmP ps) (r : List UInt8) : prL (prB ps ++ r) = ps ∧ prR (prB ps ++ r) = r ∧ prW (prB ps ++ r) = false := by
  have hu : upV 4 (prB ps ++ r) = ps.length := by
    have e : prB ps ++ r = num ps.length ++ (ps.flatMap prF ++ r) := by unfold prB; rw [List.append_assoc]
    rw [e]
    exact (up_bk 4 ps.length hs.1 (by decide) _).1
  obtain ⟨a, b, c⟩ := pa_bk ps hs r ps.length (Nat.le_refl _)
  unfold prL prR prW
  rw [hu, a, b, c]
  refine ⟨by simp, by simp, rfl⟩
theorem SmZ.bk {z : Int} (h : SmZ z) : z.toNat ≤ amM ∧ ((z.toNat : Nat) : Int) = z := by
  obtain ⟨h1, h2⟩ := h
  unfold amM
  omega
theorem nd_bk (n : Nd) (h : SmN n) (r : List UInt8) : ndT (ndY n ++ r) = n ∧ ndR (ndY n ++ r) = r ∧ ndX (ndY n ++ r) = false := by
  obtain ⟨nn, z0, z1, z2, ls, ts⟩ := n
  obtain ⟨h1, h2, h3, h4, h5, h6⟩ := h
  simp only at h1 h2 h3 h4 h5 h6
  have e : ndY ⟨nn, z0, z1, z2, ls, ts⟩ ++ r = txt nn.data.toList ++ (amB z0.toNat z1.toNat z2.toNat ++ (prB ls ++ (prB ts ++ r))) := by
    simp only [ndY, ndB, List.append_assoc]
  obtain ⟨-, t1, r1⟩ := tt_bk nn h1 (amB z0.toNat z1.toNat z2.toNat ++ (prB ls ++ (prB ts ++ r)))
  obtain ⟨v0, v1, v2, r2⟩ := am_bk _ _ _ h2.bk.1 h3.bk.1 h4.bk.1 (prB ls ++ (prB ts ++ r))
  obtain ⟨p1, r3, -⟩ := pr_bk ls h5 (prB ts ++ r)
  obtain ⟨p2, r4, w4⟩ := pr_bk ts h6 r
  unfold ndT ndR ndX
  rw [e, t1, r1, v0, v1, v2, r2, p1, r3, p2, r4, w4, h2.bk.2, h3.bk.2, h4.bk.2]
  exact ⟨rfl, rfl, rfl⟩
theorem td_bk (n : Td) (h : SmT n) (r : List UInt8) : tkT (tdY n ++ r) = n ∧ tkR (tdY n ++ r) = r ∧ tkX (tdY n ++ r) = false := by
  obtain ⟨nn, z0, z1, z2, ls, ts, g, a, rk⟩ := n
  obtain ⟨h1, h2, h3, h4, h5, h6, h7, h8, h9⟩ := h
  simp only at h1 h2 h3 h4 h5 h6 h7 h8 h9
  have e : tdY ⟨nn, z0, z1, z2, ls, ts, g, a, rk⟩ ++ r = txt nn.data.toList ++ (amB z0.toNat z1.toNat z2.toNat ++ (prB ls ++ (prB ts ++ (txt g.data.toList ++ (txt a.data.toList ++ (num (rk + 1000).toNat ++ r)))))) := by
    simp only [tdY, tsB, List.append_assoc]
  obtain ⟨-, t1, r1⟩ := tt_bk nn h1 (amB z0.toNat z1.toNat z2.toNat ++ (prB ls ++ (prB ts ++ (txt g.data.toList ++ (txt a.data.toList ++ (num (rk + 1000).toNat ++ r))))))
  obtain ⟨v0, v1, v2, r2⟩ := am_bk _ _ _ h2.bk.1 h3.bk.1 h4.bk.1 (prB ls ++ (prB ts ++ (txt g.data.toList ++ (txt a.data.toList ++ (num (rk + 1000).toNat ++ r)))))
  obtain ⟨p1, r3, -⟩ := pr_bk ls h5 (prB ts ++ (txt g.data.toList ++ (txt a.data.toList ++ (num (rk + 1000).toNat ++ r))))
  obtain ⟨p2, r4, -⟩ := pr_bk ts h6 (txt g.data.toList ++ (txt a.data.toList ++ (num (rk + 1000).toNat ++ r)))
  obtain ⟨-, t5, r5⟩ := tt_bk g h7 (txt a.data.toList ++ (num (rk + 1000).toNat ++ r))
  obtain ⟨-, t6, r6⟩ := tt_bk a h8 (num (rk + 1000).toNat ++ r)
  obtain ⟨v7, r7, w7⟩ := up_bk 2000 (rk + 1000).toNat (by omega) (by decide) r
  have e7 : (((rk + 1000).toNat : Nat) : Int) - 1000 = rk := by omega
  have en : ndR (tdY ⟨nn, z0, z1, z2, ls, ts, g, a, rk⟩ ++ r) = txt g.data.toList ++ (txt a.data.toList ++ (num (rk + 1000).toNat ++ r)) := by
    unfold ndR
    rw [e, r1, r2, r3, r4]
  unfold tkT tkR tkX
  rw [en, r5, r6, v7, r7, w7, t5, t6, e, t1, r1, v0, v1, v2, r2, p1, r3, p2, h2.bk.2, h3.bk.2, h4.bk.2, e7]
  exact ⟨rfl, rfl, rfl⟩
theorem fd_bk {c : Cd} (h : CkForm c) (hb : Bnd c) (r : List UInt8) : fdT c.cl c.sq c.k (fdY c ++ r) = c ∧ fdR c.k (fdY c ++ r) = r ∧ fdB c.k (fdY c ++ r) = false := by
  cases h with
  | node cl sq nd h =>
    obtain ⟨a, b, c⟩ := nd_bk nd (nE_small h) r
    have e : fdY ⟨cl, sq, 1, nd, td0, ⟨#[]⟩, ⟨#[]⟩, 0⟩ = ndY nd := if_pos rfl
    rw [e]
    unfold fdT fdR fdB
    rw [if_pos rfl, if_pos rfl, if_pos rfl, a, b, c]
    exact ⟨rfl, rfl, rfl⟩
  | task cl sq td h =>
    obtain ⟨a, b, c⟩ := td_bk td (tE_small h) r
    have e : fdY ⟨cl, sq, 3, nd0, td, ⟨#[]⟩, ⟨#[]⟩, 0⟩ = tdY td := rfl
    rw [e]
    unfold fdT fdR fdB
    rw [if_neg (by simp), if_pos rfl, if_neg (by simp), if_pos rfl, if_neg (by simp), if_pos rfl, a, b, c]
    exact ⟨rfl, rfl, rfl⟩
  | bind cl sq na on fe h1 h2 =>
    obtain ⟨-, t1, r1⟩ := tt_bk na (nm_small h1) (txt on.data.toList ++ (num fe ++ r))
    obtain ⟨-, t2, r2⟩ := tt_bk on (nm_small h2) (num fe ++ r)
    obtain ⟨w3, v3, r3⟩ := tn_back fe hb.fe r
    have e : fdY ⟨cl, sq, 5, nd0, td0, na, on, fe⟩ ++ r = txt na.data.toList ++ (txt on.data.toList ++ (num fe ++ r)) := by
      show txt na.data.toList ++ txt on.data.toList ++ num fe ++ r = _
      simp only [List.append_assoc]
    rw [e]
    unfold fdT fdR fdB
    rw [if_neg (by simp), if_neg (by simp), if_pos rfl, if_neg (by simp), if_neg (by simp), if_pos rfl, if_neg (by simp), if_neg (by simp), if_pos rfl, t1, r1, t2, r2, w3, v3, r3]
    exact ⟨rfl, rfl, rfl⟩
  | name cl sq k na hk h1 =>
    obtain ⟨w1, t1, r1⟩ := tt_bk na (nm_small h1) r
    have k1 : ¬ k = 1 := by omega
    have k3 : ¬ k = 3 := by omega
    have k5 : ¬ k = 5 := by omega
    have e : fdY ⟨cl, sq, k, nd0, td0, na, ⟨#[]⟩, 0⟩ = txt na.data.toList := (if_neg k1).trans ((if_neg k3).trans (if_neg k5))
    rw [e]
    unfold fdT fdR fdB
    simp only
    rw [if_neg k1, if_neg k3, if_neg k5, if_neg k1, if_neg k3, if_neg k5, if_neg k1, if_neg k3, if_neg k5, t1, r1, w1]
    exact ⟨rfl, rfl, rfl⟩
theorem ck_k {c : Cd} (h : CkForm c) : c.k ≤ 8 := by
  cases h with
  | node => show (1 : Nat) ≤ 8; decide
  | task => show (3 : Nat) ≤ 8; decide
  | bind => show (5 : Nat) ≤ 8; decide
  | name cl sq k na hk => show k ≤ 8; omega
theorem cm_bk {c : Cd} (h : CkForm c) (hb : Bnd c) (r : List UInt8) : cmT (cmY c ++ r) = c ∧ cmR (cmY c ++ r) = r ∧ cmB (cmY c ++ r) = false := by
  have e : cmY c ++ r = num c.cl ++ (num c.sq ++ (num c.k ++ (fdY c ++ r))) := by unfold cmY; simp only [List.append_assoc]
  obtain ⟨-, v1, r1⟩ := tn_back c.cl hb.cl (num c.sq ++ (num c.k ++ (fdY c ++ r)))
  obtain ⟨-, v2, r2⟩ := tn_back c.sq hb.sq (num c.k ++ (fdY c ++ r))
  obtain ⟨v3, r3, -⟩ := up_bk 8 c.k (ck_k h) (by decide) (fdY c ++ r)
  obtain ⟨f1, f2, f3⟩ := fd_bk h hb r
  have ek : cmK (cmY c ++ r) = c.k := by unfold cmK; rw [e, r1, r2, v3]
  have ef : cmF (cmY c ++ r) = fdY c ++ r := by unfold cmF; rw [e, r1, r2, r3]
  unfold cmT cmR cmB
  rw [ek, ef, f2, f3, e, r1, v1, v2, f1]
  exact ⟨rfl, rfl, rfl⟩
/-- A right command's bytes are read as it; with more behind they are none. -/
theorem dc_bk {c : Cd} (h : ckB c = true) (hb : Bnd c) (r : List UInt8) : dcOk (cmY c ++ r) = r.isEmpty := by
  obtain ⟨a, b, d⟩ := cm_bk (ck_form h).1 hb r
  unfold dcOk cmN
  rw [a, b, d, h]
  simp
theorem dc_whole {c : Cd} (h : ckB c = true) (hb : Bnd c) : dcOk (cmY c) = true ∧ dcT (cmY c) = c := by
  have h1 := dc_bk h hb []
  have h2 := (cm_bk (ck_form h).1 hb []).1
  rw [List.append_nil] at h1 h2
  have h3 : dcOk (cmY c) = true := h1
  exact ⟨h3, by unfold dcT; rw [if_pos h3, h2]⟩
/-- Cut short a right command's bytes are none. -/
theorem dc_less {c : Cd} (h : ckB c = true) (hb : Bnd c) (l r : List UInt8) (e : l ++ r = cmY c) (hr : r ≠ []) (hl : l.length ≤ maxLen) : dcOk l = false := by
  cases hd : dcOk l with
  | false => rfl
  | true =>
    exfalso
    obtain ⟨f1, f2⟩ := cm_forth hd
    have h1 := dc_bk f2 (cmT_took l hl).2.2 r
    rw [f1, e, (dc_whole h hb).1] at h1
    have : r.isEmpty = true := h1.symm
    exact hr (List.isEmpty_iff.1 this)
theorem cm_inj {a b : Cd} (ha : ckB a = true) (hb : ckB b = true) (ba : Bnd a) (bb : Bnd b) : cmY a = cmY b ↔ a = b := by
  refine ⟨fun e => ?_, fun e => by rw [e]⟩
  have h1 := (dc_whole ha ba).2
  rw [e, (dc_whole hb bb).2] at h1
  exact h1.symm
end Hd
end Go.Proofs.Ythlchdlgafincaa
