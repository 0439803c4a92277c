/-
  Merged: MsgMath, MsgSn, MsgSame.
-/
import Derived.Test.YtlkdjnnlbccjdaaMgT
import Derived.Test.YtlkdjnnlbccjdaaPackTurnMath
import Derived.Test.YtlkdjnnlbccjdaaMsgInt
import Derived.Test.YtlkdjnnlbccjdaaPartsMb
import Derived.Test.YtlkdjnnlbccjdaaLogSame
/-
  MESSAGES there and back.
-/
namespace Go.Proofs.Ytlkdjnnlbccjdaa
open Go.RowKit
namespace Hd
open PM
set_option linter.unusedVariables false
theorem up_backm (M n : Nat) (h : n ≤ M) (hM : M < 2 ^ 64) (r : List UInt8) : upV M (num n ++ r) = n ∧ upR M (num n ++ r) = r ∧ upB M (num n ++ r) = false := by
  obtain ⟨h1, h2, h3⟩ := tn_back n (by omega) r
  refine ⟨?_, ?_, ?_⟩
  · unfold upV; rw [h2, if_neg (by omega)]
  · unfold upR; rw [h2, if_neg (by omega), h3]
  · unfold upB; rw [h2, if_neg (by omega), h1]; rfl
theorem tn_end (n : Nat) (h : n < 2 ^ 64) : tnW (num n) = 0 ∧ tnN (num n) = n ∧ tnR (num n) = [] := by
  have := tn_back n h []
  rwa [List.append_nil] at this
theorem yes_back (ok : Bool) (r : List UInt8) : yesB (num (okN ok) ++ r) = ok ∧ upR 1 (num (okN ok) ++ r) = r ∧ upB 1 (num (okN ok) ++ r) = false := by
  obtain ⟨h1, h2, h3⟩ := up_backm 1 (okN ok) (by unfold okN; split <;> omega) (by omega) r
  refine ⟨?_, h2, h3⟩
  unfold yesB
  rw [h1]
  cases ok <;> rfl
theorem Sn0.eq {s : Sn} (h : Sn0 s) : s = sn0 := by
  obtain ⟨i, t, ks, d⟩ := s
  obtain ⟨h1, h2, h3, h4⟩ := h
  simp only at h1 h2 h3 h4
  subst h1; subst h2; subst h3; subst h4
  rfl
theorem re_all {x : Nat} {l : List Lo.En} (h : Lo.reB x l = true) (hx : x < 2 ^ 64) : (∀ e ∈ l, Lo.enB e = true) ∧ l.length ≤ 8 := by
  unfold Lo.reB at h
  simp only [Bool.and_eq_true, decide_eq_true_eq] at h
  obtain ⟨-, h2⟩ := Lo.row_is l x h.1 (by unfold Lo.Lt64; omega)
  refine ⟨fun e he => ?_, h.2⟩
  obtain ⟨i, hi, rfl⟩ := List.getElem_of_mem he
  exact (h2 i hi).2
theorem es_back (l : List Lo.En) (h8 : l.length ≤ 8) (he : ∀ e ∈ l, Lo.enB e = true) (hf : ∀ e ∈ l, e.i < 2 ^ 64 ∧ e.t < 2 ^ 64) : ∀ k, k ≤ l.length → eL (esB l) k = l.take k ∧ eR (esB l) k = (l.drop k).flatMap enB2 ∧ eB (esB l) k = false
  | 0, _ => by
    obtain ⟨-, h2, h3⟩ := up_backm 8 l.length h8 (by omega) (l.flatMap enB2)
    exact ⟨by simp [eL], h2, h3⟩
  | k + 1, hk => by
    obtain ⟨h1, h2, h3⟩ := es_back l h8 he hf k (by omega)
    have hlt : k < l.length := by omega
    have hm := List.getElem_mem hlt
    have hen := he _ hm
    obtain ⟨hi, ht⟩ := hf _ hm
    have hlen := weB_len hen hi ht
    have e : (l.drop k).flatMap enB2 = txt (weB l[k]) ++ (l.drop (k + 1)).flatMap enB2 := by
      rw [List.drop_eq_getElem_cons hlt, List.flatMap_cons]
      show txt (weS l[k]) ++ _ = _
      rw [(weS_ok hen).1]
    obtain ⟨t1, t2, t3⟩ := tt_back (weB l[k]) ((l.drop (k + 1)).flatMap enB2) (by omega)
    refine ⟨?_, ?_, ?_⟩
    · rw [eL, h1, h2, e, t2, (wd_whole l[k] hi ht hen).2.1, List.take_add_one, List.getElem?_eq_getElem hlt]; rfl
    · rw [eR, h2, e, t3]
    · rw [eB, h2, e, t1]; rfl
theorem en_snB {s : Sn} (h : snOk s = true) : enS s.i s.t s.ks s.d = snB s.i s.t (s.ks.map Int.toNat) s.d ∧ chkS s.i s.t s.ks s.d = 0 ∧ s.i ≠ 0 := by
  unfold snOk at h
  by_cases hi : s.i = 0
  · rw [if_pos hi] at h; cases h
  · rw [if_neg hi] at h
    have hc := of_decide_eq_true h
    exact ⟨by unfold enS; rw [if_pos hc], hc, hi⟩
/-- What is taken of a right message's bytes is the message. -/
theorem tk_back {m : Mg} (h : Rt m) (hf : Lts m) : tkV (mgB m) = (m, [], false) := by
  obtain ⟨hk, ht, hx, hu, hc, hsi, hst, hle⟩ := hf
  obtain ⟨k, t, x, u, c, ok, l, s⟩ := m
  obtain ⟨h0, h⟩ := h
  simp only at *
  rcases h with ⟨rfl, rfl, rfl, rfl, hs⟩ | ⟨rfl, rfl, rfl, rfl, rfl, hs⟩ | ⟨rfl, rfl, hs, hr⟩ | ⟨rfl, rfl, rfl, rfl, hs⟩ | ⟨rfl, rfl, rfl, rfl, rfl, rfl, hs⟩
  · obtain rfl := hs.eq
    have e : mgB ⟨1, t, x, u, 0, false, [], sn0⟩ = num 1 ++ (num t ++ (num x ++ num u)) := by unfold mgB mgT; simp
    rw [e]
    obtain ⟨a1, a2, -⟩ := up_backm 6 1 (by omega) (by omega) (num t ++ (num x ++ num u))
    obtain ⟨b1, b2, b3⟩ := tn_back t ht (num x ++ num u)
    obtain ⟨c1, c2, c3⟩ := tn_back x hx (num u)
    obtain ⟨d1, d2, d3⟩ := tn_end u hu
    unfold tkV
    rw [if_pos a1]
    unfold tkT tk2
    rw [a2, b2, b3, c2, c3, d1, d2, d3]
    rfl
  · obtain rfl := hs.eq
    have e : mgB ⟨2, t, 0, 0, 0, ok, [], sn0⟩ = num 2 ++ (num t ++ (num (okN ok) ++ [])) := by unfold mgB mgT; simp
    rw [e]
    obtain ⟨a1, a2, -⟩ := up_backm 6 2 (by omega) (by omega) (num t ++ (num (okN ok) ++ []))
    obtain ⟨b1, b2, b3⟩ := tn_back t ht (num (okN ok) ++ [])
    obtain ⟨y1, y2, y3⟩ := yes_back ok []
    unfold tkV
    rw [if_neg (by rw [a1]; omega), if_pos a1]
    unfold tkT tk2
    rw [a2, b2, b3, y1, y2, y3]
  · obtain rfl := hs.eq
    obtain ⟨r1, r2⟩ := re_all hr hx
    have e : mgB ⟨3, t, x, u, c, false, l, sn0⟩ = num 3 ++ (num t ++ (num x ++ (num u ++ (num c ++ esB l)))) := by unfold mgB mgT; simp
    rw [e]
    obtain ⟨a1, a2, -⟩ := up_backm 6 3 (by omega) (by omega) (num t ++ (num x ++ (num u ++ (num c ++ esB l))))
    obtain ⟨b1, b2, b3⟩ := tn_back t ht (num x ++ (num u ++ (num c ++ esB l)))
    obtain ⟨c1, c2, c3⟩ := tn_back x hx (num u ++ (num c ++ esB l))
    obtain ⟨d1, d2, d3⟩ := tn_back u hu (num c ++ esB l)
    obtain ⟨f1, f2, f3⟩ := tn_back c hc (esB l)
    obtain ⟨g1, -, -⟩ := up_backm 8 l.length r2 (by omega) (l.flatMap enB2)
    obtain ⟨q1, q2, q3⟩ := es_back l r2 r1 hle l.length (Nat.le_refl _)
    have g1' : upV 8 (esB l) = l.length := g1
    unfold tkV
    rw [if_neg (by rw [a1]; omega), if_neg (by rw [a1]; omega), if_pos a1]
    unfold tkT tk5 tk2
    rw [a2, b2, b3, c2, c3, d2, d3, f2, f3, g1', q1, q2, q3, List.take_length, List.drop_length]
    rfl
  · obtain rfl := hs.eq
    have e : mgB ⟨4, t, x, 0, 0, ok, [], sn0⟩ = num 4 ++ (num t ++ (num (okN ok) ++ num x)) := by unfold mgB mgT; simp
    rw [e]
    obtain ⟨a1, a2, -⟩ := up_backm 6 4 (by omega) (by omega) (num t ++ (num (okN ok) ++ num x))
    obtain ⟨b1, b2, b3⟩ := tn_back t ht (num (okN ok) ++ num x)
    obtain ⟨y1, y2, y3⟩ := yes_back ok (num x)
    obtain ⟨d1, d2, d3⟩ := tn_end x hx
    unfold tkV
    rw [if_neg (by rw [a1]; omega), if_neg (by rw [a1]; omega), if_neg (by rw [a1]; omega), if_pos a1]
    unfold tkT tk2
    rw [a2, b2, b3, y1, y2, d1, d2, d3]
    rfl
  · obtain ⟨n1, n2, n3⟩ := en_snB hs
    obtain ⟨c1, c2, c3⟩ := chk_ms _ _ _ _ n2
    have hmap := toNat_map s.ks c1
    have hn : (s.ks.map Int.toNat).length ≤ 7 := by rw [List.length_map]; omega
    have h7 : ∀ m ∈ s.ks.map Int.toNat, m ≤ 7 := by
      intro m hm
      obtain ⟨k, hk, rfl⟩ := List.mem_map.1 hm
      have := c1 k hk
      omega
    have hw := sd_whole s.i s.t (s.ks.map Int.toNat) s.d hsi hst hn h7 (by omega) (by rw [hmap]; exact n2)
    obtain ⟨w1, w2, w3, w4, w5, w6⟩ := hw
    have e : mgB ⟨5, t, 0, 0, 0, false, [], s⟩ = num 5 ++ (num t ++ (txt (snB s.i s.t (s.ks.map Int.toNat) s.d) ++ [])) := by unfold mgB mgT; simp [n1]
    rw [e]
    obtain ⟨a1, a2, -⟩ := up_backm 6 5 (by omega) (by omega) (num t ++ (txt (snB s.i s.t (s.ks.map Int.toNat) s.d) ++ []))
    obtain ⟨b1, b2, b3⟩ := tn_back t ht (txt (snB s.i s.t (s.ks.map Int.toNat) s.d) ++ [])
    have hl := enS_len s.i s.t s.ks s.d hsi hst
    rw [n1] at hl
    obtain ⟨t1, t2, t3⟩ := tt_back (snB s.i s.t (s.ks.map Int.toNat) s.d) [] (by omega)
    unfold tkV
    rw [if_neg (by rw [a1]; omega), if_neg (by rw [a1]; omega), if_neg (by rw [a1]; omega), if_neg (by rw [a1]; omega), if_pos a1]
    unfold tkT tk2 snT
    rw [a2, b2, b3, t1, t2, t3, w2, w3, w4, w5, hmap]
    rfl
/-! The other way. -/
theorem tnR_nilW (l : List UInt8) (h : tnW l ≠ 0) : tnR l = [] := by unfold tnR; rw [if_neg h]
theorem ttR_ne (l : List UInt8) (h : ttR l ≠ []) : ttW l = 0 := by
  apply Classical.byContradiction
  intro hw
  exact h (by unfold ttR; rw [if_neg hw])
theorem head_forth (p : List UInt8) (h : tk2 p ≠ []) : num (upV 6 p) ++ (num (tkT p) ++ tk2 p) = p := by
  have h1 := tn_forth (upR 6 p) (tnR_ne _ h)
  have hne : upR 6 p ≠ [] := by
    intro e
    rw [e] at h1
    simp [num] at h1
  obtain ⟨h2, h3, h4⟩ := upR_ne 6 p hne
  have h5 := tn_forth p h2
  show num (upV 6 p) ++ (num (tnN (upR 6 p)) ++ tnR (upR 6 p)) = p
  rw [h1, h3, h4, h5]
theorem yes_forth (l : List UInt8) (h : upB 1 l = false) : num (okN (yesB l)) ++ upR 1 l = l := by
  obtain ⟨h1, h2, h3⟩ := upB_no 1 l h
  have hv := upV_le 1 l
  have e : okN (yesB l) = upV 1 l := by
    unfold yesB okN
    by_cases h : upV 1 l = 1
    · rw [decide_eq_true h, if_pos rfl, h]
    · rw [decide_eq_false h, if_neg (by simp)]; omega
  rw [e, h2, h3]
  exact tn_forth l h1
theorem wdV_en {l : List UInt8} (h : Lo.enB (wdV l) = true) : weS (wdV l) = l := by
  cases hk : wdOk l
  · unfold wdV at h
    rw [hk] at h
    simp [noE, Lo.enB] at h
  · have e : wdV l = wdN l := by unfold wdV; rw [if_pos hk]
    obtain ⟨f1, f2⟩ := wd_forth l hk
    rw [e, (weS_ok f2).1, f1]
theorem es_forth (l : List UInt8) : ∀ k, eB l k = false → (∀ e ∈ eL l k, Lo.enB e = true) → num (upV 8 l) ++ ((eL l k).flatMap enB2 ++ eR l k) = l
  | 0, h, _ => by
    obtain ⟨h1, h2, h3⟩ := upB_no 8 l h
    show num (upV 8 l) ++ ([] ++ upR 8 l) = l
    rw [h2, h3]
    exact tn_forth l h1
  | k + 1, h, he => by
    have hw : ttW (eR l k) = 0 := by
      have : decide (ttW (eR l k) ≠ 0) = false := h
      simpa using this
    have hne : eR l k ≠ [] := by
      intro e
      rw [e, ttW_nil] at hw
      omega
    have hb : eB l k = false := by
      cases k with
      | zero =>
        have h1 : upR 8 l ≠ [] := hne
        obtain ⟨h2, h3, h4⟩ := upR_ne 8 l h1
        show upB 8 l = false
        unfold upB
        have : ¬ 8 < tnN l := by rw [← h3]; have := upV_le 8 l; omega
        rw [if_neg this, h2]; rfl
      | succ j =>
        have h1 : ttR (eR l j) ≠ [] := hne
        show decide (ttW (eR l j) ≠ 0) = false
        rw [ttR_ne _ h1]; rfl
    have ih := es_forth l k hb (fun e hm => he e (by rw [eL]; exact List.mem_append_left _ hm))
    have hf := tt_forth (eR l k) hw
    have hen : Lo.enB (wdV (ttT (eR l k))) = true := he _ (by rw [eL]; simp)
    have ee : enB2 (wdV (ttT (eR l k))) = txt (ttT (eR l k)) := by unfold enB2; rw [wdV_en hen]
    show num (upV 8 l) ++ ((eL l k ++ [wdV (ttT (eR l k))]).flatMap enB2 ++ ttR (eR l k)) = l
    rw [List.flatMap_append]
    have e1 : ([wdV (ttT (eR l k))] : List Lo.En).flatMap enB2 = txt (ttT (eR l k)) := by simp [ee]
    rw [e1, List.append_assoc, hf]
    exact ih
theorem en_sd {l : List UInt8} (h : snOk (snT l) = true) : enS (snT l).i (snT l).t (snT l).ks (snT l).d = ttT l := by
  unfold snT at h ⊢
  generalize ttT l = q at *
  obtain ⟨n1, n2, n3⟩ := en_snB h
  simp only at n1 n2 n3 ⊢
  have hok : sdOk q = true := by
    cases hk : sdOk q
    · exfalso
      apply n3
      unfold sdI
      rw [hk]; rfl
    · rfl
  rw [n1, map_back]
  exact (sd_forth q hok).1
/-- What is taken as a right message is written as the bytes that it was. -/
theorem tk_forth (p : List UInt8) (hb : (tkV p).2.2 = false) (hr : (tkV p).2.1 = []) (h : Rt (tkV p).1) : mgB (tkV p).1 = p := by
  have hu := upV_le 6 p
  unfold tkV at hb hr h ⊢
  by_cases h1 : upV 6 p = 1
  · rw [if_pos h1] at hb hr h ⊢
    simp only at hb hr
    have w2 : tnW (tnR (tk2 p)) = 0 := by simpa using hb
    have f2 := tn_forth _ w2
    rw [hr, List.append_nil] at f2
    have f1 := tn_forth (tk2 p) (tnR_ne _ (tnW_ne _ w2))
    have hne : tk2 p ≠ [] := by intro e; rw [e] at f1; simp [num] at f1
    have f0 := head_forth p hne
    unfold mgB mgT
    simp only [if_true]
    rw [f2, f1, List.append_assoc, ← h1]
    exact f0
  · rw [if_neg h1] at hb hr h ⊢
    by_cases h2 : upV 6 p = 2
    · rw [if_pos h2] at hb hr h ⊢
      simp only at hb hr
      have f1 := yes_forth (tk2 p) hb
      rw [hr, List.append_nil] at f1
      have hne : tk2 p ≠ [] := by intro e; rw [e] at f1; simp [num] at f1
      have f0 := head_forth p hne
      unfold mgB mgT
      simp only [Nat.reduceEqDiff, if_false, if_true]
      rw [f1, List.append_assoc, ← h2]
      exact f0
    · rw [if_neg h2] at hb hr h ⊢
      by_cases h3 : upV 6 p = 3
      · rw [if_pos h3] at hb hr h ⊢
        simp only at hb hr
        have hre : Lo.reB (tnN (tk2 p)) (eL (tk5 p) (upV 8 (tk5 p))) = true := by
          rcases h.2 with h | h | h | h | h
          · exact absurd h.1 (by simp)
          · exact absurd h.1 (by simp)
          · exact h.2.2.2
          · exact absurd h.1 (by simp)
          · exact absurd h.1 (by simp)
        obtain ⟨r1, r2⟩ := re_all hre (tnN_lt _)
        have f5 := es_forth (tk5 p) (upV 8 (tk5 p)) hb r1
        rw [hr, List.append_nil] at f5
        have h5ne : tk5 p ≠ [] := by intro e; rw [e] at f5; simp [num] at f5
        have f4 : num (tnN (tnR (tnR (tk2 p)))) ++ tk5 p = tnR (tnR (tk2 p)) := tn_forth _ (tnR_ne _ h5ne)
        have h4ne : tnR (tnR (tk2 p)) ≠ [] := by intro e; rw [e] at f4; simp [num] at f4
        have f3 := tn_forth (tnR (tk2 p)) (tnR_ne _ h4ne)
        have h3ne : tnR (tk2 p) ≠ [] := by intro e; rw [e] at f3; simp [num] at f3
        have f2 := tn_forth (tk2 p) (tnR_ne _ h3ne)
        have hne : tk2 p ≠ [] := by intro e; rw [e] at f2; simp [num] at f2
        have f0 := head_forth p hne
        have e5 : esB (eL (tk5 p) (upV 8 (tk5 p))) = tk5 p := by unfold esB; rw [eL_length]; exact f5
        unfold mgB mgT
        simp only [Nat.reduceEqDiff, if_false, if_true]
        rw [e5, List.append_assoc (num (tnN (tk2 p)) ++ num (tnN (tnR (tk2 p)))), f4, List.append_assoc (num (tnN (tk2 p))), f3, f2, List.append_assoc, ← h3]
        exact f0
      · rw [if_neg h3] at hb hr h ⊢
        by_cases h4 : upV 6 p = 4
        · rw [if_pos h4] at hb hr h ⊢
          simp only at hb hr
          have w2 : tnW (upR 1 (tk2 p)) = 0 := by simpa using hb
          have f2 := tn_forth _ w2
          rw [hr, List.append_nil] at f2
          have hne1 := tnW_ne _ w2
          obtain ⟨g1, g2, g3⟩ := upR_ne 1 (tk2 p) hne1
          have hb1 : upB 1 (tk2 p) = false := by
            unfold upB
            have : ¬ 1 < tnN (tk2 p) := by rw [← g2]; have := upV_le 1 (tk2 p); omega
            rw [if_neg this, g1]; rfl
          have f1 := yes_forth (tk2 p) hb1
          have hne : tk2 p ≠ [] := by intro e; rw [e] at f1; simp [num] at f1
          have f0 := head_forth p hne
          unfold mgB mgT
          simp only [Nat.reduceEqDiff, if_false, if_true]
          rw [f2, f1, List.append_assoc, ← h4]
          exact f0
        · rw [if_neg h4] at hb hr h ⊢
          by_cases h5 : upV 6 p = 5
          · rw [if_pos h5] at hb hr h ⊢
            simp only at hb hr
            have w2 : ttW (tk2 p) = 0 := by simpa using hb
            have f2 := tt_forth _ w2
            rw [hr, List.append_nil] at f2
            have hne : tk2 p ≠ [] := by
              intro e
              rw [e, ttW_nil] at w2
              omega
            have f0 := head_forth p hne
            have hs : snOk (snT (tk2 p)) = true := by
              rcases h.2 with h | h | h | h | h
              · exact absurd h.1 (by simp)
              · exact absurd h.1 (by simp)
              · exact absurd h.1 (by simp)
              · exact absurd h.1 (by simp)
              · exact h.2.2.2.2.2.2
            have e5 : enS (snT (tk2 p)).i (snT (tk2 p)).t (snT (tk2 p)).ks (snT (tk2 p)).d = ttT (tk2 p) := en_sd hs
            unfold mgB mgT
            simp only [Nat.reduceEqDiff, if_false, if_true]
            rw [e5, f2, List.append_assoc, ← h5]
            exact f0
          · rw [if_neg h5] at h
            exfalso
            have := h.kind
            simp only at this
            omega
/-! Packets. -/
theorem dm_nil {l : List UInt8} (h : fmL l = []) : dmOk l = false := by
  have e0 : tnN ([] : List UInt8) = 0 := by unfold tnN; rw [if_neg (by simp [tnW])]
  have e1 : upV 6 [] = 0 := by unfold upV; rw [e0]; rfl
  have e2 : dmD l = false := by
    unfold dmD
    rw [h]
    unfold tkV
    rw [e1, if_neg (by decide), if_neg (by decide), if_neg (by decide), if_neg (by decide), if_neg (by decide), upR_nil]
    simp [tnW]
  unfold dmOk
  rw [e2]; rfl
theorem fm_frm (p r : List UInt8) (h : p.length ≤ 65536) : fmL (frm p ++ r) = if r = [] then p else [] := by
  obtain ⟨h1, h2, h3⟩ := tf_back p r (by omega)
  unfold fmL
  rw [if_pos h1, h3, h2]
theorem de_whole {m : Mg} (h : Rt m) (hf : Lts m) : dmOk (frm (mgB m)) = true ∧ deV (frm (mgB m)) = m ∧ deE (frm (mgB m)) = 0 := by
  have h1 := fm_frm (mgB m) [] (mgB_len h hf)
  rw [List.append_nil, if_pos rfl] at h1
  have hb := tk_back h hf
  have hm : dmM (frm (mgB m)) = m := by unfold dmM; rw [h1, hb]
  have hok : dmOk (frm (mgB m)) = true := by
    unfold dmOk dmD
    rw [hm, h1, hb, (okM_iff m).2 h]
    rfl
  refine ⟨hok, ?_, ?_⟩
  · unfold deV; rw [if_pos hok, hm]
  · unfold deE; rw [if_pos hok]
theorem de_no {l : List UInt8} (h : dmOk l = false) : deE l = 4 ∧ deV l = mg0 := by
  constructor
  · unfold deE; rw [h]; rfl
  · unfold deV; rw [h]; rfl
theorem de_more {p r : List UInt8} (h : p.length ≤ 65536) (hr : r ≠ []) : dmOk (frm p ++ r) = false := dm_nil (by rw [fm_frm p r h, if_neg hr])
theorem tf_canon (l : List UInt8) (h : tfW l = 0) : l = frm (tfP l) ++ tfR l := by
  have hP : tfP l = (l.drop 6).take (sizeOf4 l) := by unfold tfP; rw [if_pos h]
  have hR : tfR l = l.drop (6 + sizeOf4 l) := by unfold tfR; rw [if_pos h]
  unfold tfW at h
  have h1 : ¬ l.length < 4 := fun e => by rw [if_pos e] at h; omega
  rw [if_neg h1] at h
  have h2 : ¬ 65536 < sizeOf4 l := fun e => by rw [if_pos e] at h; omega
  rw [if_neg h2] at h
  have h3 : ¬ l.length < 6 + sizeOf4 l := fun e => by rw [if_pos e] at h; omega
  rw [if_neg h3] at h
  have h4 : (l.drop 4).take 2 = chk (l.take 4 ++ (l.drop 6).take (sizeOf4 l)) := Decidable.byContradiction fun e => by rw [if_pos e] at h; omega
  have hl : ((l.drop 6).take (sizeOf4 l)).length = sizeOf4 l := by rw [List.length_take, List.length_drop]; omega
  have hbe : be 4 (sizeOf4 l) = l.take 4 := by
    have := be_val (l.take 4)
    rw [List.length_take, Nat.min_eq_left (by omega)] at this
    exact this
  rw [hP, hR]
  unfold frm
  rw [hl, hbe, ← h4, List.append_assoc, List.append_assoc]
  have e1 : (l.drop 6).take (sizeOf4 l) ++ l.drop (6 + sizeOf4 l) = l.drop 6 := by rw [← List.drop_drop, List.take_append_drop]
  have e2 : (l.drop 4).take 2 ++ l.drop 6 = l.drop 4 := by rw [show (6 : Nat) = 4 + 2 from rfl, ← List.drop_drop, List.take_append_drop]
  rw [e1, e2, List.take_append_drop]
theorem de_forth {l : List UInt8} (h : dmOk l = true) : frm (mgB (deV l)) = l ∧ Rt (deV l) := by
  have e : deV l = dmM l := by unfold deV; rw [if_pos h]
  have hne : fmL l ≠ [] := by
    intro e
    rw [dm_nil e] at h
    cases h
  unfold dmOk at h
  rw [Bool.and_eq_true] at h
  obtain ⟨h1, h2⟩ := h
  have hrt := (okM_iff _).1 h2
  rw [e]
  refine ⟨?_, hrt⟩
  unfold dmD at h1
  rw [Bool.and_eq_true] at h1
  have hf := tk_forth (fmL l) (by simpa using h1.1) (List.isEmpty_iff.1 h1.2) hrt
  show frm (mgB (tkV (fmL l)).1) = l
  rw [hf]
  unfold fmL at hne ⊢
  by_cases hw : tfW l = 0
  · rw [if_pos hw] at hne ⊢
    by_cases hr : tfR l = []
    · rw [if_pos hr] at hne ⊢
      have := (tf_canon l hw).symm
      rw [hr, List.append_nil] at this
      exact this
    · rw [if_neg hr] at hne; exact absurd rfl hne
  · rw [if_neg hw] at hne; exact absurd rfl hne
end Hd
end Go.Proofs.Ytlkdjnnlbccjdaa

/-
  WHETHER TWO SNAPSHOTS ARE ONE: gafferref03.SameInts, gafferref05.Same.
-/
namespace Go.Proofs.Ytlkdjnnlbccjdaa
open Go.RowKit Go.Lib Go.Sort
namespace Dk
theorem drop_ne (ks js : List Int) (h : ks.length = js.length) (k : Nat) (hk : k < ks.length) (hj : k < js.length) (hne : ks[k] ≠ js[k]) : ¬ ks = js := fun e => by subst e; exact hne rfl
theorem take_all (ks js : List Int) (h : ks.length = js.length) (ht : ks.take ks.length = js.take ks.length) : ks = js := by
  rw [List.take_length, h, List.take_length] at ht
  exact ht
set_option maxHeartbeats 1000000 in
theorem same_ints (v u : Value) (ks js : List Int) (w : World) (hv : Ints w w.heap.size v ks) (hu : Ints w w.heap.size u js) :
    Calls Try.prog 66 #[v, u] w fun e w' => e = .returned (.bool (decide (ks = js))) ∧ Below w.heap.size w w' := by
  obtain ⟨a, c, rfl, hl, hr, hc⟩ := hv
  obtain ⟨a2, c2, rfl, hl2, hr2, hc2⟩ := hu
  have HC := Lib.hid hc
  have HC2 := Lib.hid hc2
  clear hc hc2 hr hr2
  have HR : Hid (decide (ks = js) = decide (ks = js)) := rfl
  by_cases hn : ks.length = js.length
  · have HD0 := Lib.hid (fun k hk hj hne => decide_eq_false (drop_ne ks js hn k hk hj hne))
    have HD1 := Lib.hid (fun ht => decide_eq_true (take_all ks js hn ht))
    generalize decide (ks = js) = r at *
    have hn1 : (ks.length : Int) = (js.length : Int) := by omega
    have hn2 : ((ks.length : Int) != (js.length : Int)) = false := by simp; omega
    have HN := Lib.hid hn
    clear hn
    go_enter Try.func66, Try.ntmps66
    go_wp2
    go_loopg [13] ks.length (fun gg i wx => ∃ k : Nat, k + gg = ks.length ∧ i = .int .i64 k ∧ Below w.heap.size w wx ∧ Aside (ks.take k = js.take k))
    case atStart => exact ⟨0, by omega, rfl, Below.refl _ _, (by rw [List.take_zero, List.take_zero] : ks.take 0 = js.take 0)⟩
    case round =>
      obtain ⟨k, hkg, rfl, hbx, HA⟩ := hrel
      cases gk with
      | zero =>
        obtain rfl : k = ks.length := by omega
        clear hkg
        have HT := Lib.hid (HD1.out HA.out)
        go_wp2
        go_ret
        exact ⟨by rw [HT.out]; rfl, hbx⟩
      | succ gg =>
        have hlt : (k : Int) < (ks.length : Int) := by omega
        have hlt2 : (k : Int) < (js.length : Int) := by omega
        have hk0 : (0 : Int) ≤ (k : Int) := by omega
        obtain ⟨b, off, rfl, hb, hcc⟩ := HC.out (by omega)
        obtain ⟨b2, off2, rfl, hb2, hcc2⟩ := HC2.out (by have := HN.out; omega)
        have hk1 : k < ks.length := by omega
        have hk2 : k < js.length := by omega
        have e1 : wr.drew.cell? ⟨b, off + k, none⟩ = some (.int .i64 ks[k]) := (hbx.cell (by exact hb)).trans (hcc k hk1)
        have e2 : wr.drew.cell? ⟨b2, off2 + k, none⟩ = some (.int .i64 js[k]) := (hbx.cell (by exact hb2)).trans (hcc2 k hk2)
        have HB := Lib.hid hbx
        have HT := Lib.hid (show ks[k] = js[k] → ks.take (k + 1) = js.take (k + 1) from fun e => by rw [List.take_add_one, List.take_add_one, HA.out, List.getElem?_eq_getElem hk1, List.getElem?_eq_getElem hk2, e])
        have HF := Lib.hid (fun hne => HD0.out k hk1 hk2 hne)
        clear hcc hcc2 hbx HA
        generalize ks[k] = x at *
        generalize js[k] = y at *
        have tk : IntKind.i64.wrap ((k : Int) + 1) = (k : Int) + 1 := by rw [IntKind.wrap_i64]; omega
        by_cases hxy : x = y
        · subst hxy
          have HT2 := Lib.hid (HT.out rfl)
          go_wp2
          go_region
          all_goals
            go_wp2
            go_roundg gg
            case measure => omega
            case rel => exact ⟨k + 1, by omega, by simp, HB.out.drew, HT2.out⟩
        · have hx2 : (x != y) = true := by simpa using hxy
          have HF2 := Lib.hid (HF.out hxy)
          go_wp2
          go_region
          all_goals
            go_wp2
            go_ret
            exact ⟨by rw [HF2.out]; rfl, HB.out.drew⟩
  · have HF : Hid (decide (ks = js) = false) := decide_eq_false (fun e => hn (by rw [e]))
    generalize decide (ks = js) = r at *
    have hn1 : ¬ (ks.length : Int) = (js.length : Int) := by omega
    have hn2 : ((ks.length : Int) != (js.length : Int)) = true := by simp; omega
    clear hn
    go_enter Try.func66, Try.ntmps66
    go_wp2
    go_ret
    exact ⟨by rw [HF.out]; rfl, Below.refl _ _⟩
def smB (i t : Nat) (ks : List Int) (d : ByteArray) (i2 t2 : Nat) (js : List Int) (d2 : ByteArray) : Bool := decide (i = i2) && decide (t = t2) && decide (d = d2) && decide (ks = js)
set_option maxHeartbeats 2000000 in
theorem same_snap (i t : Nat) (v : Value) (ks : List Int) (d : ByteArray) (i2 t2 : Nat) (u : Value) (js : List Int) (d2 : ByteArray) (w : World) (hv : Ints w w.heap.size v ks) (hu : Ints w w.heap.size u js) :
    Calls Try.prog 29 #[.agg #[.int .u64 (i : Nat), .int .u64 (t : Nat), v, .string d], .agg #[.int .u64 (i2 : Nat), .int .u64 (t2 : Nat), u, .string d2]] w fun e w' => e = .returned (.bool (smB i t ks d i2 t2 js d2)) ∧ Below w.heap.size w w' := by
  have HSI := Lib.hid (fun x hx hy => same_ints v u ks js x hx hy)
  have HV := Lib.hid hv
  have HU := Lib.hid hu
  obtain ⟨a, c, rfl, -⟩ := hv
  obtain ⟨a2, c2, rfl, -⟩ := hu
  have hW : Below w.heap.size w ((w.alloc (.cells #[.int .u64 (i : Nat), .int .u64 (t : Nat), .slice a ks.length c, .string d] 27)).alloc (.cells #[.int .u64 (i2 : Nat), .int .u64 (t2 : Nat), .slice a2 js.length c2, .string d2] 27)) := ((Below.refl _ _).alloc (Nat.le_refl _) _).alloc (by simp) _
  have HCI := Lib.hid (HSI.out _ (HV.out.on hW) (HU.out.on hW))
  have HR : Hid (smB i t ks d i2 t2 js d2 = (decide (i = i2) && decide (t = t2) && decide (d = d2) && decide (ks = js))) := rfl
  generalize smB i t ks d i2 t2 js d2 = r at *
  generalize decide (ks = js) = q at *
  have HW := Lib.hid hW
  clear HSI hW
  by_cases h1 : i = i2
  · subst h1
    by_cases h2 : t = t2
    · subst h2
      by_cases h3 : d = d2
      · subst h3
        have HQ : Hid (r = q) := HR.out.trans (by simp)
        go_enter Try.func29, Try.ntmps29
        go_wp2_with (go_at_call 66; go_loud ((with_reducible refine HCI.out.mono ?_); rintro e w1 ⟨rfl, hb⟩; have HB := Lib.hid (HW.out.trans (hb.mono HW.out.size)); clear hb))
        go_wp2
        go_ret
        exact ⟨by rw [HQ.out]; rfl, HB.out⟩
      · have h3' : (d.toList == d2.toList) = false := by
          rw [beq_eq_false_iff_ne]
          intro e
          apply h3
          rw [ByteArray.toList_eq, ByteArray.toList_eq] at e
          exact ByteArray.ext (Array.ext' e)
        have h3'' : ¬ d.toList = d2.toList := by simpa using h3'
        have HQ : Hid (r = false) := HR.out.trans (by simp [h3])
        clear h3
        go_enter Try.func29, Try.ntmps29
        go_wp2
        go_ret
        exact ⟨by rw [HQ.out]; rfl, HW.out⟩
    · have h2' : ¬ ((t : Int) = (t2 : Int)) := by omega
      have h2'' : ((t : Int) == (t2 : Int)) = false := by simp; omega
      have HQ : Hid (r = false) := HR.out.trans (by simp [h2])
      clear h2
      go_enter Try.func29, Try.ntmps29
      go_wp2
      go_ret
      exact ⟨by rw [HQ.out]; rfl, HW.out⟩
  · have h1' : ¬ ((i : Int) = (i2 : Int)) := by omega
    have h1'' : ((i : Int) == (i2 : Int)) = false := by simp; omega
    have HQ : Hid (r = false) := HR.out.trans (by simp [h1])
    clear h1
    go_enter Try.func29, Try.ntmps29
    go_wp2
    go_ret
    exact ⟨by rw [HQ.out]; rfl, HW.out⟩
end Dk
end Go.Proofs.Ytlkdjnnlbccjdaa

/-
  TWO MESSAGES are one, or not: gafferref13.Same.
-/
namespace Go.Proofs.Ytlkdjnnlbccjdaa
open Go.RowKit
namespace Hd
open PM
set_option linter.unusedVariables false
def smM (m n : Mg) : Bool := decide (m.k = n.k) && decide (m.t = n.t) && decide (m.x = n.x) && decide (m.u = n.u) && decide (m.c = n.c) && decide (m.ok = n.ok) && Lo.sameL m.l n.l && Dk.smB m.s.i m.s.t m.s.ks m.s.d n.s.i n.s.t n.s.ks n.s.d
theorem smM_iff {m n : Mg} : smM m n = true ↔ m = n := by
  obtain ⟨k, t, x, u, c, ok, l, si, st, sk, sd⟩ := m
  obtain ⟨k2, t2, x2, u2, c2, ok2, l2, si2, st2, sk2, sd2⟩ := n
  unfold smM Dk.smB
  simp only [Bool.and_eq_true, decide_eq_true_eq, Lo.sameL_iff, Mg.mk.injEq, Sn.mk.injEq]
  constructor
  · rintro ⟨⟨⟨⟨⟨⟨⟨h1, h2⟩, h3⟩, h4⟩, h5⟩, h6⟩, h7⟩, ⟨⟨h8, h9⟩, h10⟩, h11⟩
    exact ⟨h1, h2, h3, h4, h5, h6, h7, h8, h9, h11, h10⟩
  · rintro ⟨h1, h2, h3, h4, h5, h6, h7, h8, h9, h11, h10⟩
    exact ⟨⟨⟨⟨⟨⟨⟨h1, h2⟩, h3⟩, h4⟩, h5⟩, h6⟩, h7⟩, ⟨⟨h8, h9⟩, h10⟩, h11⟩
theorem smM_self (m : Mg) : smM m m = true := smM_iff.2 rfl
set_option maxHeartbeats 8000000 in
theorem same_msg (m : Mg) (a : Option Addr) (cp : Nat) (v : Value) (n : Mg) (a2 : Option Addr) (cp2 : Nat) (v2 : Value) (w : World) {A1 A2 A3 A4 : Nat} (hl : Lo.Sl w A1 w.heap.size a cp m.l) (hv : Lo.IntsR w A2 w.heap.size v m.s.ks) (hl2 : Lo.Sl w A3 w.heap.size a2 cp2 n.l) (hv2 : Lo.IntsR w A4 w.heap.size v2 n.s.ks) :
    Calls Try.prog 14 #[mgV m a cp v, mgV n a2 cp2 v2] w fun e w' => e = .returned (.bool (smM m n)) ∧ Below w.heap.size w w' := by
  have HR0 : Hid (smM m n = (decide (m.k = n.k) && decide (m.t = n.t) && decide (m.x = n.x) && decide (m.u = n.u) && decide (m.c = n.c) && decide (m.ok = n.ok) && Lo.sameL m.l n.l && Dk.smB m.s.i m.s.t m.s.ks m.s.d n.s.i n.s.t n.s.ks n.s.d)) := rfl
  unfold mgV
  generalize smM m n = r at *
  obtain ⟨ak, at', ax, au, ac, aok, al, asi, ast, ask, asd⟩ := m
  obtain ⟨bk, bt, bx, bu, bc, bok, bl, bsi, bst, bsk, bsd⟩ := n
  simp only at *
  obtain ⟨asa, asc, rfl⟩ := hv.slice
  obtain ⟨bsa, bsc, rfl⟩ := hv2.slice
  have hB0 : Below w.heap.size w ((w.alloc (.cells #[.int .u8 (ak : Nat), .int .u64 (at' : Nat), .int .u64 (ax : Nat), .int .u64 (au : Nat), .int .u64 (ac : Nat), .bool aok, .slice a al.length cp, .int .u64 (asi : Nat), .int .u64 (ast : Nat), .slice asa ask.length asc, .string asd] 29)).alloc (.cells #[.int .u8 (bk : Nat), .int .u64 (bt : Nat), .int .u64 (bx : Nat), .int .u64 (bu : Nat), .int .u64 (bc : Nat), .bool bok, .slice a2 bl.length cp2, .int .u64 (bsi : Nat), .int .u64 (bst : Nat), .slice bsa bsk.length bsc, .string bsd] 29)) := ((Below.refl _ w).alloc (Nat.le_refl _) _).alloc (by simp) _
  have HB0 := Lib.hid hB0
  have WA := Lib.hid (show Bxn ((w.alloc (.cells #[.int .u8 (ak : Nat), .int .u64 (at' : Nat), .int .u64 (ax : Nat), .int .u64 (au : Nat), .int .u64 (ac : Nat), .bool aok, .slice a al.length cp, .int .u64 (asi : Nat), .int .u64 (ast : Nat), .slice asa ask.length asc, .string asd] 29)).alloc (.cells #[.int .u8 (bk : Nat), .int .u64 (bt : Nat), .int .u64 (bx : Nat), .int .u64 (bu : Nat), .int .u64 (bc : Nat), .bool bok, .slice a2 bl.length cp2, .int .u64 (bsi : Nat), .int .u64 (bst : Nat), .slice bsa bsk.length bsc, .string bsd] 29)) w.heap.size [.int .u8 (ak : Nat), .int .u64 (at' : Nat), .int .u64 (ax : Nat), .int .u64 (au : Nat), .int .u64 (ac : Nat), .bool aok, .slice a al.length cp, .int .u64 (asi : Nat), .int .u64 (ast : Nat), .slice asa ask.length asc, .string asd] from (Bxn.made w _ _).below ((Below.refl _ _).alloc (Nat.le_refl _) _))
  have WB := Lib.hid (show Bxn ((w.alloc (.cells #[.int .u8 (ak : Nat), .int .u64 (at' : Nat), .int .u64 (ax : Nat), .int .u64 (au : Nat), .int .u64 (ac : Nat), .bool aok, .slice a al.length cp, .int .u64 (asi : Nat), .int .u64 (ast : Nat), .slice asa ask.length asc, .string asd] 29)).alloc (.cells #[.int .u8 (bk : Nat), .int .u64 (bt : Nat), .int .u64 (bx : Nat), .int .u64 (bu : Nat), .int .u64 (bc : Nat), .bool bok, .slice a2 bl.length cp2, .int .u64 (bsi : Nat), .int .u64 (bst : Nat), .slice bsa bsk.length bsc, .string bsd] 29)) (w.heap.size + 1) [.int .u8 (bk : Nat), .int .u64 (bt : Nat), .int .u64 (bx : Nat), .int .u64 (bu : Nat), .int .u64 (bc : Nat), .bool bok, .slice a2 bl.length cp2, .int .u64 (bsi : Nat), .int .u64 (bst : Nat), .slice bsa bsk.length bsc, .string bsd] by have h9 := Bxn.made (w.alloc (.cells #[.int .u8 (ak : Nat), .int .u64 (at' : Nat), .int .u64 (ax : Nat), .int .u64 (au : Nat), .int .u64 (ac : Nat), .bool aok, .slice a al.length cp, .int .u64 (asi : Nat), .int .u64 (ast : Nat), .slice asa ask.length asc, .string asd] 29)) [.int .u8 (bk : Nat), .int .u64 (bt : Nat), .int .u64 (bx : Nat), .int .u64 (bu : Nat), .int .u64 (bc : Nat), .bool bok, .slice a2 bl.length cp2, .int .u64 (bsi : Nat), .int .u64 (bst : Nat), .slice bsa bsk.length bsc, .string bsd] 29; rw [World.size_alloc] at h9; exact h9)
  have HES := Lib.hid (Lo.same_ents a cp al a2 cp2 bl _ ((hl.keep hB0).more hB0.size (Nat.le_refl _)) ((hl2.keep hB0).more hB0.size (Nat.le_refl _)))
  have HSS := Lib.hid (fun z hb => Dk.same_snap asi ast (.slice asa ask.length asc) ask asd bsi bst (.slice bsa bsk.length bsc) bsk bsd z ((((hv.keep hB0).more hB0.size (Nat.le_refl _)).keep hb).more hb.size (Nat.le_refl _)).ints ((((hv2.keep hB0).more hB0.size (Nat.le_refl _)).keep hb).more hb.size (Nat.le_refl _)).ints)
  clear hB0 hl hv hl2 hv2
  by_cases h0 : ak = bk
  · subst h0
    by_cases h1 : at' = bt
    · subst h1
      by_cases h2 : ax = bx
      · subst h2
        by_cases h3 : au = bu
        · subst h3
          by_cases h4 : ac = bc
          · subst h4
            cases aok <;> cases bok
            · skip
              cases hs : Lo.sameL al bl
              · have HR : Hid (r = false) := HR0.out.trans (by simp [hs])
                rw [hs] at HES
                clear hs HR0 HSS
                go_enter Try.func14, Try.ntmps14
                go_wp2_with (go_at_call 28; go_loud ((with_reducible refine (HES.out).mono ?_); rintro e w1 ⟨rfl, hb⟩; have HX1 := Lib.hid hb; have W1 := Lib.hid (WA.out.below hb); have W2 := Lib.hid (WB.out.below hb); have d7 : w1.cell? ⟨w.heap.size, 7, none⟩ = some (.int .u64 (asi : Nat)) := W1.out.cell 7; have e7 : w1.cell? ⟨w.heap.size + 1, 7, none⟩ = some (.int .u64 (bsi : Nat)) := W2.out.cell 7; have d8 : w1.cell? ⟨w.heap.size, 8, none⟩ = some (.int .u64 (ast : Nat)) := W1.out.cell 8; have e8 : w1.cell? ⟨w.heap.size + 1, 8, none⟩ = some (.int .u64 (bst : Nat)) := W2.out.cell 8; have d9 : w1.cell? ⟨w.heap.size, 9, none⟩ = some (.slice asa ask.length asc) := W1.out.cell 9; have e9 : w1.cell? ⟨w.heap.size + 1, 9, none⟩ = some (.slice bsa bsk.length bsc) := W2.out.cell 9; have d10 : w1.cell? ⟨w.heap.size, 10, none⟩ = some (.string asd) := W1.out.cell 10; have e10 : w1.cell? ⟨w.heap.size + 1, 10, none⟩ = some (.string bsd) := W2.out.cell 10; have HB1 := Lib.hid (HB0.out.trans (hb.mono HB0.out.size)); clear hb))
                go_wp2
                go_ret
                exact ⟨by rw [HR.out]; rfl, HB1.out⟩
              · rw [hs] at HES
                cases ht : Dk.smB asi ast ask asd bsi bst bsk bsd
                · have HR : Hid (r = false) := HR0.out.trans (by simp [hs, ht])
                  rw [ht] at HSS
                  clear hs ht HR0
                  go_enter Try.func14, Try.ntmps14
                  go_wp2_with (go_at_call 28; go_loud ((with_reducible refine (HES.out).mono ?_); rintro e w1 ⟨rfl, hb⟩; have HX1 := Lib.hid hb; have W1 := Lib.hid (WA.out.below hb); have W2 := Lib.hid (WB.out.below hb); have d7 : w1.cell? ⟨w.heap.size, 7, none⟩ = some (.int .u64 (asi : Nat)) := W1.out.cell 7; have e7 : w1.cell? ⟨w.heap.size + 1, 7, none⟩ = some (.int .u64 (bsi : Nat)) := W2.out.cell 7; have d8 : w1.cell? ⟨w.heap.size, 8, none⟩ = some (.int .u64 (ast : Nat)) := W1.out.cell 8; have e8 : w1.cell? ⟨w.heap.size + 1, 8, none⟩ = some (.int .u64 (bst : Nat)) := W2.out.cell 8; have d9 : w1.cell? ⟨w.heap.size, 9, none⟩ = some (.slice asa ask.length asc) := W1.out.cell 9; have e9 : w1.cell? ⟨w.heap.size + 1, 9, none⟩ = some (.slice bsa bsk.length bsc) := W2.out.cell 9; have d10 : w1.cell? ⟨w.heap.size, 10, none⟩ = some (.string asd) := W1.out.cell 10; have e10 : w1.cell? ⟨w.heap.size + 1, 10, none⟩ = some (.string bsd) := W2.out.cell 10; have HB1 := Lib.hid (HB0.out.trans (hb.mono HB0.out.size)); clear hb))
                  go_wp2_with (go_at_call 29; go_loud ((with_reducible refine (HSS.out _ HX1.out).mono ?_); rintro e w2 ⟨rfl, hb⟩; have HB2 := Lib.hid (HB1.out.trans (hb.mono HB1.out.size)); clear hb))
                  go_wp2
                  go_ret
                  exact ⟨by rw [HR.out]; rfl, HB2.out⟩
                · have HR : Hid (r = true) := HR0.out.trans (by simp [hs, ht])
                  rw [ht] at HSS
                  clear hs ht HR0
                  go_enter Try.func14, Try.ntmps14
                  go_wp2_with (go_at_call 28; go_loud ((with_reducible refine (HES.out).mono ?_); rintro e w1 ⟨rfl, hb⟩; have HX1 := Lib.hid hb; have W1 := Lib.hid (WA.out.below hb); have W2 := Lib.hid (WB.out.below hb); have d7 : w1.cell? ⟨w.heap.size, 7, none⟩ = some (.int .u64 (asi : Nat)) := W1.out.cell 7; have e7 : w1.cell? ⟨w.heap.size + 1, 7, none⟩ = some (.int .u64 (bsi : Nat)) := W2.out.cell 7; have d8 : w1.cell? ⟨w.heap.size, 8, none⟩ = some (.int .u64 (ast : Nat)) := W1.out.cell 8; have e8 : w1.cell? ⟨w.heap.size + 1, 8, none⟩ = some (.int .u64 (bst : Nat)) := W2.out.cell 8; have d9 : w1.cell? ⟨w.heap.size, 9, none⟩ = some (.slice asa ask.length asc) := W1.out.cell 9; have e9 : w1.cell? ⟨w.heap.size + 1, 9, none⟩ = some (.slice bsa bsk.length bsc) := W2.out.cell 9; have d10 : w1.cell? ⟨w.heap.size, 10, none⟩ = some (.string asd) := W1.out.cell 10; have e10 : w1.cell? ⟨w.heap.size + 1, 10, none⟩ = some (.string bsd) := W2.out.cell 10; have HB1 := Lib.hid (HB0.out.trans (hb.mono HB0.out.size)); clear hb))
                  go_wp2_with (go_at_call 29; go_loud ((with_reducible refine (HSS.out _ HX1.out).mono ?_); rintro e w2 ⟨rfl, hb⟩; have HB2 := Lib.hid (HB1.out.trans (hb.mono HB1.out.size)); clear hb))
                  go_wp2
                  go_ret
                  exact ⟨by rw [HR.out]; rfl, HB2.out⟩
            · have HR : Hid (r = false) := HR0.out.trans (by simp)
              clear HR0 HES HSS
              go_enter Try.func14, Try.ntmps14
              go_wp2
              go_ret
              exact ⟨by rw [HR.out]; rfl, HB0.out⟩
            · have HR : Hid (r = false) := HR0.out.trans (by simp)
              clear HR0 HES HSS
              go_enter Try.func14, Try.ntmps14
              go_wp2
              go_ret
              exact ⟨by rw [HR.out]; rfl, HB0.out⟩
            · skip
              cases hs : Lo.sameL al bl
              · have HR : Hid (r = false) := HR0.out.trans (by simp [hs])
                rw [hs] at HES
                clear hs HR0 HSS
                go_enter Try.func14, Try.ntmps14
                go_wp2_with (go_at_call 28; go_loud ((with_reducible refine (HES.out).mono ?_); rintro e w1 ⟨rfl, hb⟩; have HX1 := Lib.hid hb; have W1 := Lib.hid (WA.out.below hb); have W2 := Lib.hid (WB.out.below hb); have d7 : w1.cell? ⟨w.heap.size, 7, none⟩ = some (.int .u64 (asi : Nat)) := W1.out.cell 7; have e7 : w1.cell? ⟨w.heap.size + 1, 7, none⟩ = some (.int .u64 (bsi : Nat)) := W2.out.cell 7; have d8 : w1.cell? ⟨w.heap.size, 8, none⟩ = some (.int .u64 (ast : Nat)) := W1.out.cell 8; have e8 : w1.cell? ⟨w.heap.size + 1, 8, none⟩ = some (.int .u64 (bst : Nat)) := W2.out.cell 8; have d9 : w1.cell? ⟨w.heap.size, 9, none⟩ = some (.slice asa ask.length asc) := W1.out.cell 9; have e9 : w1.cell? ⟨w.heap.size + 1, 9, none⟩ = some (.slice bsa bsk.length bsc) := W2.out.cell 9; have d10 : w1.cell? ⟨w.heap.size, 10, none⟩ = some (.string asd) := W1.out.cell 10; have e10 : w1.cell? ⟨w.heap.size + 1, 10, none⟩ = some (.string bsd) := W2.out.cell 10; have HB1 := Lib.hid (HB0.out.trans (hb.mono HB0.out.size)); clear hb))
                go_wp2
                go_ret
                exact ⟨by rw [HR.out]; rfl, HB1.out⟩
              · rw [hs] at HES
                cases ht : Dk.smB asi ast ask asd bsi bst bsk bsd
                · have HR : Hid (r = false) := HR0.out.trans (by simp [hs, ht])
                  rw [ht] at HSS
                  clear hs ht HR0
                  go_enter Try.func14, Try.ntmps14
                  go_wp2_with (go_at_call 28; go_loud ((with_reducible refine (HES.out).mono ?_); rintro e w1 ⟨rfl, hb⟩; have HX1 := Lib.hid hb; have W1 := Lib.hid (WA.out.below hb); have W2 := Lib.hid (WB.out.below hb); have d7 : w1.cell? ⟨w.heap.size, 7, none⟩ = some (.int .u64 (asi : Nat)) := W1.out.cell 7; have e7 : w1.cell? ⟨w.heap.size + 1, 7, none⟩ = some (.int .u64 (bsi : Nat)) := W2.out.cell 7; have d8 : w1.cell? ⟨w.heap.size, 8, none⟩ = some (.int .u64 (ast : Nat)) := W1.out.cell 8; have e8 : w1.cell? ⟨w.heap.size + 1, 8, none⟩ = some (.int .u64 (bst : Nat)) := W2.out.cell 8; have d9 : w1.cell? ⟨w.heap.size, 9, none⟩ = some (.slice asa ask.length asc) := W1.out.cell 9; have e9 : w1.cell? ⟨w.heap.size + 1, 9, none⟩ = some (.slice bsa bsk.length bsc) := W2.out.cell 9; have d10 : w1.cell? ⟨w.heap.size, 10, none⟩ = some (.string asd) := W1.out.cell 10; have e10 : w1.cell? ⟨w.heap.size + 1, 10, none⟩ = some (.string bsd) := W2.out.cell 10; have HB1 := Lib.hid (HB0.out.trans (hb.mono HB0.out.size)); clear hb))
                  go_wp2_with (go_at_call 29; go_loud ((with_reducible refine (HSS.out _ HX1.out).mono ?_); rintro e w2 ⟨rfl, hb⟩; have HB2 := Lib.hid (HB1.out.trans (hb.mono HB1.out.size)); clear hb))
                  go_wp2
                  go_ret
                  exact ⟨by rw [HR.out]; rfl, HB2.out⟩
                · have HR : Hid (r = true) := HR0.out.trans (by simp [hs, ht])
                  rw [ht] at HSS
                  clear hs ht HR0
                  go_enter Try.func14, Try.ntmps14
                  go_wp2_with (go_at_call 28; go_loud ((with_reducible refine (HES.out).mono ?_); rintro e w1 ⟨rfl, hb⟩; have HX1 := Lib.hid hb; have W1 := Lib.hid (WA.out.below hb); have W2 := Lib.hid (WB.out.below hb); have d7 : w1.cell? ⟨w.heap.size, 7, none⟩ = some (.int .u64 (asi : Nat)) := W1.out.cell 7; have e7 : w1.cell? ⟨w.heap.size + 1, 7, none⟩ = some (.int .u64 (bsi : Nat)) := W2.out.cell 7; have d8 : w1.cell? ⟨w.heap.size, 8, none⟩ = some (.int .u64 (ast : Nat)) := W1.out.cell 8; have e8 : w1.cell? ⟨w.heap.size + 1, 8, none⟩ = some (.int .u64 (bst : Nat)) := W2.out.cell 8; have d9 : w1.cell? ⟨w.heap.size, 9, none⟩ = some (.slice asa ask.length asc) := W1.out.cell 9; have e9 : w1.cell? ⟨w.heap.size + 1, 9, none⟩ = some (.slice bsa bsk.length bsc) := W2.out.cell 9; have d10 : w1.cell? ⟨w.heap.size, 10, none⟩ = some (.string asd) := W1.out.cell 10; have e10 : w1.cell? ⟨w.heap.size + 1, 10, none⟩ = some (.string bsd) := W2.out.cell 10; have HB1 := Lib.hid (HB0.out.trans (hb.mono HB0.out.size)); clear hb))
                  go_wp2_with (go_at_call 29; go_loud ((with_reducible refine (HSS.out _ HX1.out).mono ?_); rintro e w2 ⟨rfl, hb⟩; have HB2 := Lib.hid (HB1.out.trans (hb.mono HB1.out.size)); clear hb))
                  go_wp2
                  go_ret
                  exact ⟨by rw [HR.out]; rfl, HB2.out⟩
          · have p4 : ¬ (ac : Int) = (bc : Int) := by omega
            have q4 : ((ac : Int) == (bc : Int)) = false := by simp; omega
            have HR : Hid (r = false) := HR0.out.trans (by simp [h4])
            clear h4 HR0 HES HSS
            go_enter Try.func14, Try.ntmps14
            go_wp2
            go_ret
            exact ⟨by rw [HR.out]; rfl, HB0.out⟩
        · have p3 : ¬ (au : Int) = (bu : Int) := by omega
          have q3 : ((au : Int) == (bu : Int)) = false := by simp; omega
          have HR : Hid (r = false) := HR0.out.trans (by simp [h3])
          clear h3 HR0 HES HSS
          go_enter Try.func14, Try.ntmps14
          go_wp2
          go_ret
          exact ⟨by rw [HR.out]; rfl, HB0.out⟩
      · have p2 : ¬ (ax : Int) = (bx : Int) := by omega
        have q2 : ((ax : Int) == (bx : Int)) = false := by simp; omega
        have HR : Hid (r = false) := HR0.out.trans (by simp [h2])
        clear h2 HR0 HES HSS
        go_enter Try.func14, Try.ntmps14
        go_wp2
        go_ret
        exact ⟨by rw [HR.out]; rfl, HB0.out⟩
    · have p1 : ¬ (at' : Int) = (bt : Int) := by omega
      have q1 : ((at' : Int) == (bt : Int)) = false := by simp; omega
      have HR : Hid (r = false) := HR0.out.trans (by simp [h1])
      clear h1 HR0 HES HSS
      go_enter Try.func14, Try.ntmps14
      go_wp2
      go_ret
      exact ⟨by rw [HR.out]; rfl, HB0.out⟩
  · have p0 : ¬ (ak : Int) = (bk : Int) := by omega
    have q0 : ((ak : Int) == (bk : Int)) = false := by simp; omega
    have HR : Hid (r = false) := HR0.out.trans (by simp [h0])
    clear h0 HR0 HES HSS
    go_enter Try.func14, Try.ntmps14
    go_wp2
    go_ret
    exact ⟨by rw [HR.out]; rfl, HB0.out⟩
end Hd
end Go.Proofs.Ytlkdjnnlbccjdaa
