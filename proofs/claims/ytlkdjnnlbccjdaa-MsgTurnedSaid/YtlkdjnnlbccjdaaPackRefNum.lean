/-
  CONTRACTS: the document's own Number hands back the number's bytes.
-/
import Derived.Test.YtlkdjnnlbccjdaaPackBytes
import Derived.Test.YtlkdjnnlbccjdaaMem
namespace Go.Proofs.Ytlkdjnnlbccjdaa
open Go.RowKit
namespace PackRefNum
open PM PackBytes

def enc (b : UInt8) : Value := .int .u8 (b.toNat : Nat)
theorem enc_one (l : List UInt8) : ∀ u ∈ l.map enc, u.oneCell' = true := by
  intro u hu
  obtain ⟨b, _, rfl⟩ := List.mem_map.1 hu
  rfl

theorem conv_row (w : World) (base n : Nat) (v : Value) (l : List UInt8) (h : w.ownsRow base 5 1 v n (l.map enc)) :
    (convert 39 9 v).run Try.prog w = .ok (.string (bs l)) w := by
  rcases h.2 with ⟨rfl, rfl⟩ | ⟨g, cap, cur, rfl, hbg, hh, hnc, hcm, hcs, htk⟩
  · have hy : l = [] := List.eq_nil_of_length_eq_zero (by simpa using h.1)
    subst hy
    rw [run_convert_bytes_string w 39 9 5 _ _ _ Try.underlying39 Try.underlying5 Try.underlying9]
    rfl
  · have hl : l.length = n := by simpa using h.1
    exact conv_bytes (P := Try.prog) 39 9 5 Try.underlying39 Try.underlying5 Try.underlying9 w ⟨g, 0, none⟩ l n cap hl (by
      intro j b hb
      exact h.cells (g := g) rfl j _ (by rw [List.getElem?_map, hb]; rfl))

theorem len_own (w : World) (base n : Nat) (v : Value) (xs : List Value) (h : w.ownsRow base 5 1 v n xs) : ∃ a c, v = .slice a n c := by
  rcases h.2 with ⟨rfl, rfl⟩ | ⟨g, cap, cur, rfl, _⟩
  · exact ⟨_, _, rfl⟩
  · exact ⟨_, _, rfl⟩

set_option maxRecDepth 100000 in
set_option maxHeartbeats 1000000 in
theorem number_ref (n : Nat) (w : World) (hn : n < 2 ^ 64) :
    Calls Try.prog 46 #[.int .u64 n] w fun e w' => e = .returned (.string (bs (num n))) ∧ Below w.heap.size w w' := by
  obtain ⟨i0, hi, hz0, hz1, hz2⟩ := info_parts info_u8
  have HN := Lib.hid hn
  clear hn
  go_enter Try.func46, Try.ntmps46
  go_wp2
  go_loopg [0, 3] 9 (fun g s0 v wx => ∃ (j m : Nat), j + g = 9 ∧ s0 = .int .u64 m ∧ m < 18446744073709551616 ∧ Aside (m = n / 256 ^ j) ∧ Aside (0 < j → 256 ^ (j - 1) ≤ n) ∧ wx.ownsRow w.heap.size 5 1 v j ((be j n).map enc) ∧ Below w.heap.size w wx)
  case atStart => exact ⟨0, n, by omega, rfl, HN.out, by show _ = _; simp, fun h => by omega, World.ownsRow_nil _ _ _ _, Below.refl _ _⟩
  case round =>
    obtain ⟨j, m, hjg, rfl, hm, HM, HJ, hown, hbel⟩ := hrel
    have HG := Lib.hid hjg
    clear hjg
    obtain ⟨a, c, rfl⟩ := len_own _ _ _ _ _ hown
    have hj8 : m ≠ 0 → j < 8 := by
      intro h0
      rcases Nat.lt_or_ge j 8 with h | h
      · exact h
      · exfalso
        have h1 := HM.out
        have h2 : n / 256 ^ j = 0 := Nat.div_eq_of_lt (Nat.lt_of_lt_of_le HN.out (by
          have : (2 : Nat) ^ 64 = 256 ^ 8 := by decide
          rw [this]; exact Nat.pow_le_pow_right (by omega) h))
        omega
    by_cases h0 : m = 0
    · subst h0
      have HK : Hid (nsz n = j) := nsz_unique n j HN.out (by
        have := HM.out
        exact (Nat.div_eq_zero_iff_lt (Nat.pow_pos (by omega))).1 this.symm) HJ.out
      clear hj8
      have hj : j ≤ 8 := by have := HK.out; have := (nsz_spec n HN.out).1; omega
      have e1 : 1 + j ≤ maxLen := by unfold maxLen; omega
      have hsz := hbel.size
      have hx : ([Value.int IntKind.u8 (j : Int)] ++ List.map enc (be j n)) = (UInt8.ofNat j :: be j n).map enc := by
        have e : (UInt8.ofNat j).toNat = j := by simp; omega
        simp [enc]; omega
      go_wp2_with (at_builtin; refine Mem.wpList_append_row rfl (.tmp 17) (.tmp 18) _ rfl w.heap.size 5 i0 _ 1 Try.underlying39 hi hz0 hz1 hz2 rfl (.slice (some ⟨wr.heap.size, 0, none⟩) 1 1) 1 _ rfl (Mem.own_lit wr _ 5 _ hbel.size) w.heap.size _ j _ rfl (hown.alloc _) (enc_one _) e1 (by omega) (Nat.le_trans hbel.size (by simp)) ?_; intro v1 w1 hown1 hg1; rw [hx] at hown1; have hcv := conv_row w1 _ _ v1 _ hown1; clear hx)
      have hb1 := (hbel.alloc hbel.size (.cells #[Value.int IntKind.u8 (j : Int)] 5)).grown hg1 (by simp; omega) (fun k hk => by simp [Value.ownBlock] at hk; omega)
      go_ret
      refine ⟨?_, hb1⟩
      have e2 := HK.out
      show _ = Ending.returned (.string (bs (num n)))
      have e3 : num n = UInt8.ofNat j :: be j n := by unfold num; rw [e2]
      rw [e3]
      rfl
    · have hlt := hj8 h0
      have t0 : (0 : Int) < (m : Int) := by omega
      clear hj8
      have e1 : 1 + j ≤ maxLen := by unfold maxLen; omega
      have hsz := hbel.size
      go_wp2_with (at_builtin; refine Mem.wpList_append_row rfl (.tmp 9) (.tmp 10) _ rfl w.heap.size 5 i0 _ 1 Try.underlying39 hi hz0 hz1 hz2 rfl (.slice (some ⟨wr.heap.size, 0, none⟩) 1 1) 1 _ rfl (Mem.own_lit wr _ 5 _ hbel.size) w.heap.size _ j _ rfl (hown.alloc _) (enc_one _) e1 (by omega) (Nat.le_trans hbel.size (by simp)) ?_; intro v1 w1 hown1 hg1)
      have hb1 := (hbel.alloc hbel.size (.cells #[Value.int IntKind.u8 ((m : Int) % 256)] 5)).grown hg1 (by simp; omega) (fun k hk => by simp [Value.ownBlock] at hk; omega)
      have hx : ([Value.int IntKind.u8 ((m : Int) % 256)] ++ List.map enc (be j n)) = (be (j + 1) n).map enc := by
        rw [be_cons, ← HM.out]
        simp [enc]
      rw [hx, Nat.add_comm 1 j] at hown1
      go_roundg (gk - 1)
      case measure => have := HG.out; omega
      case rel =>
        refine ⟨j + 1, m / 256, by have := HG.out; omega, by go_num, by omega, ?_, ?_, hown1, hb1⟩
        · show _ = _
          rw [HM.out, Nat.div_div_eq_div_mul, Nat.pow_succ]
        · show 0 < j + 1 → _
          intro _
          rw [Nat.add_sub_cancel]
          have e4 := HM.out
          have e5 : 0 < n / 256 ^ j := by omega
          exact Nat.le_of_not_lt (fun hlt => by rw [Nat.div_eq_of_lt hlt] at e5; omega)
end PackRefNum
end Go.Proofs.Ytlkdjnnlbccjdaa
