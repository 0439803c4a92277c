/-
  NUMBERS AND TEXTS, forth: what was taken is what stood there (as in SnapMath, without a snapshot).
-/
import Derived.Test.YthlchdlgafincaaHardPart
namespace Go.Proofs.Ythlchdlgafincaa
open Go.RowKit
namespace Hc
open PM Hd
theorem val_cons (x : UInt8) (t : List UInt8) : val (x :: t) = x.toNat * 256 ^ t.length + val t := by
  induction t using snoc_ind with
  | h0 => simp [val]
  | h1 l b ih =>
    rw [← List.cons_append, val_snoc, val_snoc, ih, List.length_append, List.length_singleton, Nat.pow_succ]
    rw [Nat.add_mul, Nat.mul_assoc, Nat.add_assoc]
theorem tn_forth (l : List UInt8) (h : tnW l = 0) : num (tnN l) ++ tnR l = l := by
  have hN : tnN l = val ((l.drop 1).take (tnK l)) := by unfold tnN; rw [if_pos h]
  have hR : tnR l = l.drop (1 + tnK l) := by unfold tnR; rw [if_pos h]
  cases l with
  | nil => simp [tnW] at h
  | cons b r =>
    simp only [tnW] at h
    split at h
    · omega
    · rename_i h8
      split at h
      · omega
      · rename_i h0
        split at h
        · omega
        · rename_i hl
          simp only [tnK, List.drop_succ_cons, List.drop_zero] at hN hR
          have hlen : (r.take b.toNat).length = b.toNat := by rw [List.length_take]; omega
          have hv := val_lt (r.take b.toNat)
          rw [hlen] at hv
          have hn : nsz (tnN (b :: r)) = b.toNat := by
            rw [hN]
            have hp : 256 ^ b.toNat ≤ 256 ^ 8 := Nat.pow_le_pow_right (by omega) (by omega)
            have h5 : (256 : Nat) ^ 8 = 2 ^ 64 := by decide
            refine nsz_unique _ _ (by omega) hv (fun hb => ?_)
            cases r with
            | nil => simp at hl; omega
            | cons x q =>
              have hx : x ≠ 0 := by
                intro e
                apply h0
                exact ⟨hb, by rw [e]; rfl⟩
              have e1 : (x :: q).take b.toNat = x :: q.take (b.toNat - 1) := by
                cases hbn : b.toNat with
                | zero => omega
                | succ k => rfl
              rw [e1, val_cons]
              have hq : (q.take (b.toNat - 1)).length = b.toNat - 1 := by
                rw [e1] at hlen
                simp only [List.length_cons] at hlen
                omega
              rw [hq]
              have hx1 : 1 ≤ x.toNat := by
                rcases Nat.eq_zero_or_pos x.toNat with h9 | h9
                · exact absurd (UInt8.toNat_inj.1 (by rw [h9]; rfl)) hx
                · exact h9
              have := Nat.mul_le_mul_right (256 ^ (b.toNat - 1)) hx1
              omega
          unfold num
          rw [hn, hR, hN]
          have hbe := be_val (r.take b.toNat)
          rw [hlen] at hbe
          rw [hbe, Nat.add_comm 1 b.toNat, List.drop_succ_cons]
          simp
theorem tt_forth (l : List UInt8) (h : ttW l = 0) : txt (ttT l) ++ ttR l = l := by
  have hT : ttT l = (tnR l).take (tnN l) := by unfold ttT; rw [if_pos h]
  have hR : ttR l = (tnR l).drop (tnN l) := by unfold ttR; rw [if_pos h]
  unfold ttW at h
  split at h
  · rename_i h1; omega
  · rename_i h1
    split at h
    · omega
    · split at h
      · omega
      · rename_i h3
        have hlen : (ttT l).length = tnN l := by rw [hT, List.length_take]; omega
        unfold txt
        rw [hlen, hT, hR, List.append_assoc, List.take_append_drop]
        exact tn_forth l (by omega)
theorem tnR_ne (l : List UInt8) (h : tnR l ≠ []) : tnW l = 0 := by
  unfold tnR at h
  split at h
  · assumption
  · exact absurd rfl h
theorem upR_ne (m : Nat) (l : List UInt8) (h : upR m l ≠ []) : tnW l = 0 ∧ upV m l = tnN l ∧ upR m l = tnR l := by
  unfold upR at h
  split at h
  · exact absurd rfl h
  · rename_i h1
    refine ⟨tnR_ne l h, ?_, ?_⟩
    · unfold upV; rw [if_neg h1]
    · unfold upR; rw [if_neg h1]
end Hc
end Go.Proofs.Ythlchdlgafincaa
