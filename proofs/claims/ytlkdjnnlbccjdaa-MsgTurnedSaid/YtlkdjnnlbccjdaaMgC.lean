/-
  Merged: MsgChk, MsgEnt, MsgCk.
-/
import Derived.Test.YtlkdjnnlbccjdaaMgW
import Derived.Test.YtlkdjnnlbccjdaaLogRow
/-
  MESSAGES: whether one has nothing else than its kind has: msg.zeroSnap, msg.onlyItsOwn.
-/
namespace Go.Proofs.Ytlkdjnnlbccjdaa
open Go.RowKit
namespace Hd
open PM
set_option linter.unusedVariables false
set_option maxHeartbeats 2000000 in
theorem zero_snap (i t n : Nat) (a : Option Addr) (c : Nat) (d : ByteArray) (w : World) :
    Calls Try.prog 67 #[.agg #[.int .u64 (i : Nat), .int .u64 (t : Nat), .slice a n c, .string d]] w fun e w' => e = .returned (.bool (isN i t n d)) ∧ Below w.heap.size w w' := by
  have HN : Hid (isN i t n d = (decide (i = 0) && decide (t = 0) && decide (n = 0) && d.toList.isEmpty)) := rfl
  generalize isN i t n d = r at *
  by_cases h1 : i = 0
  · subst h1
    by_cases h2 : t = 0
    · subst h2
      by_cases h3 : n = 0
      · subst h3
        by_cases h4 : d.toList = []
        · have HR : Hid (r = true) := HN.out.trans (by simp [h4])
          go_enter Try.func67, Try.ntmps67
          go_wp2
          go_ret
          exact ⟨by rw [HR.out]; rfl, (Below.refl _ _).alloc (Nat.le_refl _) _⟩
        · have h4' : d.toList.isEmpty = false := by rw [← Bool.not_eq_true, List.isEmpty_iff]; exact h4
          have HR : Hid (r = false) := HN.out.trans (by simp [h4'])
          go_enter Try.func67, Try.ntmps67
          go_wp2
          go_ret
          exact ⟨by rw [HR.out]; rfl, (Below.refl _ _).alloc (Nat.le_refl _) _⟩
      · have h3' : ¬ ((n : Int) = 0) := by omega
        have h3'' : ((n : Int) == 0) = false := by simp; omega
        have HR : Hid (r = false) := HN.out.trans (by simp [h3])
        clear h3
        go_enter Try.func67, Try.ntmps67
        go_wp2
        go_ret
        exact ⟨by rw [HR.out]; rfl, (Below.refl _ _).alloc (Nat.le_refl _) _⟩
    · have h2' : ¬ ((t : Int) = 0) := by omega
      have h2'' : ((t : Int) == 0) = false := by simp; omega
      have HR : Hid (r = false) := HN.out.trans (by simp [h2])
      clear h2
      go_enter Try.func67, Try.ntmps67
      go_wp2
      go_ret
      exact ⟨by rw [HR.out]; rfl, (Below.refl _ _).alloc (Nat.le_refl _) _⟩
  · have h1' : ¬ ((i : Int) = 0) := by omega
    have h1'' : ((i : Int) == 0) = false := by simp; omega
    have HR : Hid (r = false) := HN.out.trans (by simp [h1])
    clear h1
    go_enter Try.func67, Try.ntmps67
    go_wp2
    go_ret
    exact ⟨by rw [HR.out]; rfl, (Below.refl _ _).alloc (Nat.le_refl _) _⟩
def tailM (x u c : Nat) (ok : Bool) (n : Nat) (z : Bool) : Bool := decide (x = 0) && decide (u = 0) && decide (c = 0) && !ok && decide (n = 0) && z
def ownB (k x u c : Nat) (ok : Bool) (n : Nat) (z : Bool) : Bool := if k = 1 then tailM 0 0 c ok n z else if k = 2 then tailM x u c false n z else if k = 3 then tailM 0 0 0 ok 0 z else if k = 4 then tailM 0 u c false n z else if k = 5 then tailM x u c ok n true else false
theorem isN_zero : isN 0 0 0 ⟨#[]⟩ = true := by unfold isN; rw [ByteArray.toList_eq]; rfl
theorem zero_snap0 (w : World) : Calls Try.prog 67 #[.agg #[.int .u64 0, .int .u64 0, .slice none 0 0, .string ⟨#[]⟩]] w fun e w' => e = .returned (.bool true) ∧ Below w.heap.size w w' := by
  have := zero_snap 0 0 0 none 0 ⟨#[]⟩ w
  rw [isN_zero] at this
  exact this
set_option maxHeartbeats 4000000 in
theorem only_own1 (t x u c : Nat) (ok : Bool) (a : Option Addr) (n cp si st : Nat) (sa : Option Addr) (sn sc : Nat) (sd : ByteArray) (w : World) :
    Calls Try.prog 30 #[.agg #[.int .u8 1, .int .u64 (t : Nat), .int .u64 (x : Nat), .int .u64 (u : Nat), .int .u64 (c : Nat), .bool ok, .slice a n cp, .int .u64 (si : Nat), .int .u64 (st : Nat), .slice sa sn sc, .string sd]] w fun e w' => e = .returned (.bool (ownB 1 x u c ok n (isN si st sn sd))) ∧ Below w.heap.size w w' := by
  have HN : Hid (ownB 1 x u c ok n (isN si st sn sd) = tailM 0 0 c ok n (isN si st sn sd)) := rfl
  generalize ownB 1 x u c ok n (isN si st sn sd) = r at *
  by_cases hc : c = 0
  · subst hc
    cases ok
    · skip
      by_cases hn : n = 0
      · subst hn
        have HZ := Lib.hid (fun w => zero_snap si st sn sa sc sd w)
        cases hz : isN si st sn sd
        · have HR : Hid (r = false) := HN.out.trans (by simp [tailM, hz])
          rw [hz] at HZ
          clear HN hz
          go_enter Try.func30, Try.ntmps30
          go_wp2_with (go_at_call 67; go_loud ((with_reducible refine (HZ.out _).mono ?_); rintro e w1 ⟨rfl, hb⟩; have HB1 := Lib.hid hb; clear hb))
          go_wp2
          go_ret
          exact ⟨by rw [HR.out]; rfl, Below.trans ((Below.refl _ _).alloc (Nat.le_refl _) _) (HB1.out.mono (by simp))⟩
        · have HR : Hid (r = true) := HN.out.trans (by simp [tailM, hz])
          rw [hz] at HZ
          clear HN hz
          go_enter Try.func30, Try.ntmps30
          go_wp2_with (go_at_call 67; go_loud ((with_reducible refine (HZ.out _).mono ?_); rintro e w1 ⟨rfl, hb⟩; have HB1 := Lib.hid hb; clear hb))
          go_wp2
          go_ret
          exact ⟨by rw [HR.out]; rfl, Below.trans ((Below.refl _ _).alloc (Nat.le_refl _) _) (HB1.out.mono (by simp))⟩
      · have pn : ¬ ((n : Int) = 0) := by omega
        have qn : ((n : Int) == 0) = false := by simp; omega
        have HR : Hid (r = false) := HN.out.trans (by simp [tailM, hn])
        clear HN hn
        go_enter Try.func30, Try.ntmps30
        go_wp2
        go_ret
        exact ⟨by rw [HR.out]; rfl, ((Below.refl _ _).alloc (Nat.le_refl _) _)⟩
    · have HR : Hid (r = false) := HN.out.trans (by simp [tailM])
      clear HN
      go_enter Try.func30, Try.ntmps30
      go_wp2
      go_ret
      exact ⟨by rw [HR.out]; rfl, ((Below.refl _ _).alloc (Nat.le_refl _) _)⟩
  · have pc : ¬ ((c : Int) = 0) := by omega
    have qc : ((c : Int) == 0) = false := by simp; omega
    have HR : Hid (r = false) := HN.out.trans (by simp [tailM, hc])
    clear HN hc
    go_enter Try.func30, Try.ntmps30
    go_wp2
    go_ret
    exact ⟨by rw [HR.out]; rfl, ((Below.refl _ _).alloc (Nat.le_refl _) _)⟩
set_option maxHeartbeats 4000000 in
theorem only_own2 (t x u c : Nat) (ok : Bool) (a : Option Addr) (n cp si st : Nat) (sa : Option Addr) (sn sc : Nat) (sd : ByteArray) (w : World) :
    Calls Try.prog 30 #[.agg #[.int .u8 2, .int .u64 (t : Nat), .int .u64 (x : Nat), .int .u64 (u : Nat), .int .u64 (c : Nat), .bool ok, .slice a n cp, .int .u64 (si : Nat), .int .u64 (st : Nat), .slice sa sn sc, .string sd]] w fun e w' => e = .returned (.bool (ownB 2 x u c ok n (isN si st sn sd))) ∧ Below w.heap.size w w' := by
  have HN : Hid (ownB 2 x u c ok n (isN si st sn sd) = tailM x u c false n (isN si st sn sd)) := rfl
  generalize ownB 2 x u c ok n (isN si st sn sd) = r at *
  by_cases hx : x = 0
  · subst hx
    by_cases hu : u = 0
    · subst hu
      by_cases hc : c = 0
      · subst hc
        by_cases hn : n = 0
        · subst hn
          have HZ := Lib.hid (fun w => zero_snap si st sn sa sc sd w)
          cases hz : isN si st sn sd
          · have HR : Hid (r = false) := HN.out.trans (by simp [tailM, hz])
            rw [hz] at HZ
            clear HN hz
            go_enter Try.func30, Try.ntmps30
            go_wp2_with (go_at_call 67; go_loud ((with_reducible refine (HZ.out _).mono ?_); rintro e w1 ⟨rfl, hb⟩; have HB1 := Lib.hid hb; clear hb))
            go_wp2
            go_ret
            exact ⟨by rw [HR.out]; rfl, Below.trans ((Below.refl _ _).alloc (Nat.le_refl _) _) (HB1.out.mono (by simp))⟩
          · have HR : Hid (r = true) := HN.out.trans (by simp [tailM, hz])
            rw [hz] at HZ
            clear HN hz
            go_enter Try.func30, Try.ntmps30
            go_wp2_with (go_at_call 67; go_loud ((with_reducible refine (HZ.out _).mono ?_); rintro e w1 ⟨rfl, hb⟩; have HB1 := Lib.hid hb; clear hb))
            go_wp2
            go_ret
            exact ⟨by rw [HR.out]; rfl, Below.trans ((Below.refl _ _).alloc (Nat.le_refl _) _) (HB1.out.mono (by simp))⟩
        · have pn : ¬ ((n : Int) = 0) := by omega
          have qn : ((n : Int) == 0) = false := by simp; omega
          have HR : Hid (r = false) := HN.out.trans (by simp [tailM, hn])
          clear HN hn
          go_enter Try.func30, Try.ntmps30
          go_wp2
          go_ret
          exact ⟨by rw [HR.out]; rfl, ((Below.refl _ _).alloc (Nat.le_refl _) _)⟩
      · have pc : ¬ ((c : Int) = 0) := by omega
        have qc : ((c : Int) == 0) = false := by simp; omega
        have HR : Hid (r = false) := HN.out.trans (by simp [tailM, hc])
        clear HN hc
        go_enter Try.func30, Try.ntmps30
        go_wp2
        go_ret
        exact ⟨by rw [HR.out]; rfl, ((Below.refl _ _).alloc (Nat.le_refl _) _)⟩
    · have pu : ¬ ((u : Int) = 0) := by omega
      have qu : ((u : Int) == 0) = false := by simp; omega
      have HR : Hid (r = false) := HN.out.trans (by simp [tailM, hu])
      clear HN hu
      go_enter Try.func30, Try.ntmps30
      go_wp2
      go_ret
      exact ⟨by rw [HR.out]; rfl, ((Below.refl _ _).alloc (Nat.le_refl _) _)⟩
  · have px : ¬ ((x : Int) = 0) := by omega
    have qx : ((x : Int) == 0) = false := by simp; omega
    have HR : Hid (r = false) := HN.out.trans (by simp [tailM, hx])
    clear HN hx
    go_enter Try.func30, Try.ntmps30
    go_wp2
    go_ret
    exact ⟨by rw [HR.out]; rfl, ((Below.refl _ _).alloc (Nat.le_refl _) _)⟩
set_option maxHeartbeats 4000000 in
theorem only_own3 (t x u c : Nat) (ok : Bool) (a : Option Addr) (n cp si st : Nat) (sa : Option Addr) (sn sc : Nat) (sd : ByteArray) (w : World) :
    Calls Try.prog 30 #[.agg #[.int .u8 3, .int .u64 (t : Nat), .int .u64 (x : Nat), .int .u64 (u : Nat), .int .u64 (c : Nat), .bool ok, .slice a n cp, .int .u64 (si : Nat), .int .u64 (st : Nat), .slice sa sn sc, .string sd]] w fun e w' => e = .returned (.bool (ownB 3 x u c ok n (isN si st sn sd))) ∧ Below w.heap.size w w' := by
  have HN : Hid (ownB 3 x u c ok n (isN si st sn sd) = tailM 0 0 0 ok 0 (isN si st sn sd)) := rfl
  generalize ownB 3 x u c ok n (isN si st sn sd) = r at *
  cases ok
  · skip
    have HZ := Lib.hid (fun w => zero_snap si st sn sa sc sd w)
    cases hz : isN si st sn sd
    · have HR : Hid (r = false) := HN.out.trans (by simp [tailM, hz])
      rw [hz] at HZ
      clear HN hz
      go_enter Try.func30, Try.ntmps30
      go_wp2_with (go_at_call 67; go_loud ((with_reducible refine (HZ.out _).mono ?_); rintro e w1 ⟨rfl, hb⟩; have HB1 := Lib.hid hb; clear hb))
      go_wp2
      go_ret
      exact ⟨by rw [HR.out]; rfl, Below.trans ((Below.refl _ _).alloc (Nat.le_refl _) _) (HB1.out.mono (by simp))⟩
    · have HR : Hid (r = true) := HN.out.trans (by simp [tailM, hz])
      rw [hz] at HZ
      clear HN hz
      go_enter Try.func30, Try.ntmps30
      go_wp2_with (go_at_call 67; go_loud ((with_reducible refine (HZ.out _).mono ?_); rintro e w1 ⟨rfl, hb⟩; have HB1 := Lib.hid hb; clear hb))
      go_wp2
      go_ret
      exact ⟨by rw [HR.out]; rfl, Below.trans ((Below.refl _ _).alloc (Nat.le_refl _) _) (HB1.out.mono (by simp))⟩
  · have HR : Hid (r = false) := HN.out.trans (by simp [tailM])
    clear HN
    go_enter Try.func30, Try.ntmps30
    go_wp2
    go_ret
    exact ⟨by rw [HR.out]; rfl, ((Below.refl _ _).alloc (Nat.le_refl _) _)⟩
set_option maxHeartbeats 4000000 in
theorem only_own4 (t x u c : Nat) (ok : Bool) (a : Option Addr) (n cp si st : Nat) (sa : Option Addr) (sn sc : Nat) (sd : ByteArray) (w : World) :
    Calls Try.prog 30 #[.agg #[.int .u8 4, .int .u64 (t : Nat), .int .u64 (x : Nat), .int .u64 (u : Nat), .int .u64 (c : Nat), .bool ok, .slice a n cp, .int .u64 (si : Nat), .int .u64 (st : Nat), .slice sa sn sc, .string sd]] w fun e w' => e = .returned (.bool (ownB 4 x u c ok n (isN si st sn sd))) ∧ Below w.heap.size w w' := by
  have HN : Hid (ownB 4 x u c ok n (isN si st sn sd) = tailM 0 u c false n (isN si st sn sd)) := rfl
  generalize ownB 4 x u c ok n (isN si st sn sd) = r at *
  by_cases hu : u = 0
  · subst hu
    by_cases hc : c = 0
    · subst hc
      by_cases hn : n = 0
      · subst hn
        have HZ := Lib.hid (fun w => zero_snap si st sn sa sc sd w)
        cases hz : isN si st sn sd
        · have HR : Hid (r = false) := HN.out.trans (by simp [tailM, hz])
          rw [hz] at HZ
          clear HN hz
          go_enter Try.func30, Try.ntmps30
          go_wp2_with (go_at_call 67; go_loud ((with_reducible refine (HZ.out _).mono ?_); rintro e w1 ⟨rfl, hb⟩; have HB1 := Lib.hid hb; clear hb))
          go_wp2
          go_ret
          exact ⟨by rw [HR.out]; rfl, Below.trans ((Below.refl _ _).alloc (Nat.le_refl _) _) (HB1.out.mono (by simp))⟩
        · have HR : Hid (r = true) := HN.out.trans (by simp [tailM, hz])
          rw [hz] at HZ
          clear HN hz
          go_enter Try.func30, Try.ntmps30
          go_wp2_with (go_at_call 67; go_loud ((with_reducible refine (HZ.out _).mono ?_); rintro e w1 ⟨rfl, hb⟩; have HB1 := Lib.hid hb; clear hb))
          go_wp2
          go_ret
          exact ⟨by rw [HR.out]; rfl, Below.trans ((Below.refl _ _).alloc (Nat.le_refl _) _) (HB1.out.mono (by simp))⟩
      · have pn : ¬ ((n : Int) = 0) := by omega
        have qn : ((n : Int) == 0) = false := by simp; omega
        have HR : Hid (r = false) := HN.out.trans (by simp [tailM, hn])
        clear HN hn
        go_enter Try.func30, Try.ntmps30
        go_wp2
        go_ret
        exact ⟨by rw [HR.out]; rfl, ((Below.refl _ _).alloc (Nat.le_refl _) _)⟩
    · have pc : ¬ ((c : Int) = 0) := by omega
      have qc : ((c : Int) == 0) = false := by simp; omega
      have HR : Hid (r = false) := HN.out.trans (by simp [tailM, hc])
      clear HN hc
      go_enter Try.func30, Try.ntmps30
      go_wp2
      go_ret
      exact ⟨by rw [HR.out]; rfl, ((Below.refl _ _).alloc (Nat.le_refl _) _)⟩
  · have pu : ¬ ((u : Int) = 0) := by omega
    have qu : ((u : Int) == 0) = false := by simp; omega
    have HR : Hid (r = false) := HN.out.trans (by simp [tailM, hu])
    clear HN hu
    go_enter Try.func30, Try.ntmps30
    go_wp2
    go_ret
    exact ⟨by rw [HR.out]; rfl, ((Below.refl _ _).alloc (Nat.le_refl _) _)⟩
set_option maxHeartbeats 4000000 in
theorem only_own5 (t x u c : Nat) (ok : Bool) (a : Option Addr) (n cp si st : Nat) (sa : Option Addr) (sn sc : Nat) (sd : ByteArray) (w : World) :
    Calls Try.prog 30 #[.agg #[.int .u8 5, .int .u64 (t : Nat), .int .u64 (x : Nat), .int .u64 (u : Nat), .int .u64 (c : Nat), .bool ok, .slice a n cp, .int .u64 (si : Nat), .int .u64 (st : Nat), .slice sa sn sc, .string sd]] w fun e w' => e = .returned (.bool (ownB 5 x u c ok n (isN si st sn sd))) ∧ Below w.heap.size w w' := by
  have HN : Hid (ownB 5 x u c ok n (isN si st sn sd) = tailM x u c ok n true) := rfl
  generalize ownB 5 x u c ok n (isN si st sn sd) = r at *
  by_cases hx : x = 0
  · subst hx
    by_cases hu : u = 0
    · subst hu
      by_cases hc : c = 0
      · subst hc
        cases ok
        · skip
          by_cases hn : n = 0
          · subst hn
            have HR : Hid (r = true) := HN.out.trans (by simp [tailM])
            clear HN
            go_enter Try.func30, Try.ntmps30
            go_wp2_with (go_at_call 67; go_loud ((with_reducible refine (zero_snap0 _).mono ?_); rintro e w1 ⟨rfl, hb⟩; have HB1 := Lib.hid hb; clear hb))
            go_wp2
            go_ret
            exact ⟨by rw [HR.out]; rfl, Below.trans ((Below.refl _ _).alloc (Nat.le_refl _) _) (HB1.out.mono (by simp))⟩
          · have pn : ¬ ((n : Int) = 0) := by omega
            have qn : ((n : Int) == 0) = false := by simp; omega
            have HR : Hid (r = false) := HN.out.trans (by simp [tailM, hn])
            clear HN hn
            go_enter Try.func30, Try.ntmps30
            go_wp2
            go_ret
            exact ⟨by rw [HR.out]; rfl, ((Below.refl _ _).alloc (Nat.le_refl _) _)⟩
        · have HR : Hid (r = false) := HN.out.trans (by simp [tailM])
          clear HN
          go_enter Try.func30, Try.ntmps30
          go_wp2
          go_ret
          exact ⟨by rw [HR.out]; rfl, ((Below.refl _ _).alloc (Nat.le_refl _) _)⟩
      · have pc : ¬ ((c : Int) = 0) := by omega
        have qc : ((c : Int) == 0) = false := by simp; omega
        have HR : Hid (r = false) := HN.out.trans (by simp [tailM, hc])
        clear HN hc
        go_enter Try.func30, Try.ntmps30
        go_wp2
        go_ret
        exact ⟨by rw [HR.out]; rfl, ((Below.refl _ _).alloc (Nat.le_refl _) _)⟩
    · have pu : ¬ ((u : Int) = 0) := by omega
      have qu : ((u : Int) == 0) = false := by simp; omega
      have HR : Hid (r = false) := HN.out.trans (by simp [tailM, hu])
      clear HN hu
      go_enter Try.func30, Try.ntmps30
      go_wp2
      go_ret
      exact ⟨by rw [HR.out]; rfl, ((Below.refl _ _).alloc (Nat.le_refl _) _)⟩
  · have px : ¬ ((x : Int) = 0) := by omega
    have qx : ((x : Int) == 0) = false := by simp; omega
    have HR : Hid (r = false) := HN.out.trans (by simp [tailM, hx])
    clear HN hx
    go_enter Try.func30, Try.ntmps30
    go_wp2
    go_ret
    exact ⟨by rw [HR.out]; rfl, ((Below.refl _ _).alloc (Nat.le_refl _) _)⟩
set_option maxHeartbeats 4000000 in
theorem only_own (k t x u c : Nat) (ok : Bool) (a : Option Addr) (n cp si st : Nat) (sa : Option Addr) (sn sc : Nat) (sd : ByteArray) (w : World) :
    Calls Try.prog 30 #[.agg #[.int .u8 (k : Nat), .int .u64 (t : Nat), .int .u64 (x : Nat), .int .u64 (u : Nat), .int .u64 (c : Nat), .bool ok, .slice a n cp, .int .u64 (si : Nat), .int .u64 (st : Nat), .slice sa sn sc, .string sd]] w fun e w' => e = .returned (.bool (ownB k x u c ok n (isN si st sn sd))) ∧ Below w.heap.size w w' := by
  by_cases h1 : k = 1
  · subst h1; exact only_own1 t x u c ok a n cp si st sa sn sc sd w
  by_cases h2 : k = 2
  · subst h2; exact only_own2 t x u c ok a n cp si st sa sn sc sd w
  by_cases h3 : k = 3
  · subst h3; exact only_own3 t x u c ok a n cp si st sa sn sc sd w
  by_cases h4 : k = 4
  · subst h4; exact only_own4 t x u c ok a n cp si st sa sn sc sd w
  by_cases h5 : k = 5
  · subst h5; exact only_own5 t x u c ok a n cp si st sa sn sc sd w
  have p1 : ¬ ((k : Int) = 1) := by omega
  have q1 : ((k : Int) == 1) = false := by simp; omega
  have p2 : ¬ ((k : Int) = 2) := by omega
  have q2 : ((k : Int) == 2) = false := by simp; omega
  have p3 : ¬ ((k : Int) = 3) := by omega
  have q3 : ((k : Int) == 3) = false := by simp; omega
  have p4 : ¬ ((k : Int) = 4) := by omega
  have q4 : ((k : Int) == 4) = false := by simp; omega
  have p5 : ¬ ((k : Int) = 5) := by omega
  have q5 : ((k : Int) == 5) = false := by simp; omega
  have HR : Hid (ownB k x u c ok n (isN si st sn sd) = false) := by show _ = _; unfold ownB; rw [if_neg h1, if_neg h2, if_neg h3, if_neg h4, if_neg h5]
  generalize ownB k x u c ok n (isN si st sn sd) = r at *
  clear h1 h2 h3 h4 h5
  go_enter Try.func30, Try.ntmps30
  go_wp2
  go_ret
  exact ⟨by rw [HR.out]; rfl, ((Below.refl _ _).alloc (Nat.le_refl _) _)⟩
end Hd
end Go.Proofs.Ytlkdjnnlbccjdaa

/-
  THE ENTRIES OF AN APPEND: msg.rightEntries.
-/
namespace Go.Proofs.Ytlkdjnnlbccjdaa
open Go.RowKit
namespace Lo
set_option linter.unusedVariables false
def reB (x : Nat) (l : List En) : Bool := rowB x l && decide (l.length ≤ 8)
set_option maxHeartbeats 4000000 in
theorem right_ents (x : Nat) (a : Option Addr) (c : Nat) (l : List En) (w : World) {A : Nat} (h : Sl w A w.heap.size a c l) :
    Calls Try.prog 31 #[.int .u64 (x : Nat), .slice a l.length c] w fun e w' => e = .returned (.bool (reB x l)) ∧ Below w.heap.size w w' := by
  obtain ⟨r, hr⟩ : ∃ r, r = reB x l := ⟨_, rfl⟩
  rw [← hr]
  have HR : Hid (r = (rowB x l && decide (l.length ≤ 8))) := hr
  have HS := Lib.hid h
  clear hr h
  go_enter Try.func31, Try.ntmps31
  go_wp2
  go_step3
  go_wp2
  go_step3
  go_wp2
  go_loopg [0, 5, 10] l.length (fun gg xv rv i wx => ∃ (k : Nat) (y : Nat), k + gg = l.length ∧ k ≤ 8 ∧ xv = .int .u64 (y : Nat) ∧ rv = .int .i64 k ∧ i = .int .i64 k ∧ Aside (Below w.heap.size w wx) ∧ Aside (rowB x l = rowB y (l.drop k)))
  case atStart => exact ⟨0, x, by omega, by omega, rfl, rfl, rfl, Below.refl _ _, rfl⟩
  case round =>
    obtain ⟨k, y, hkg, hk8, rfl, rfl, rfl, HB, HA⟩ := hrel
    cases gk with
    | zero =>
      obtain rfl : k = l.length := by omega
      have HE : Hid (r = true) := HR.out.trans (by rw [HA.out, List.drop_length]; simp [rowB, hk8])
      clear hkg HR HA
      go_wp2
      try rw [Exit.noGoto_ret]
      go_ret
      exact ⟨by rw [HE.out]; rfl, HB.out⟩
    | succ gg =>
      have hlt : k < l.length := by omega
      have hlt2 : (k : Int) < (l.length : Int) := by omega
      have hne : ¬ (k : Int) = (l.length : Int) := by omega
      have hnx : ((k : Int) == (l.length : Int)) = false := by simp; omega
      have hbx := HB.out
      obtain ⟨b, off, rfl, hA, hb, u, hc⟩ := (HS.out.keep hbx).at k hlt
      obtain ⟨c0, c1, c2, c3, c4, iv, i64, t64⟩ := hc
      obtain ⟨ua, uc, rfl⟩ := iv.slice
      have HK := Lib.hid hkg
      have HM := Lib.hid (rowB_at l k hlt y)
      have IV := Lib.hid iv
      have hz := hbx.size
      have tk2 : IntKind.i64.wrap ((k : Int) + 1) = (k : Int) + 1 := by have := HS.out.len; rw [IntKind.wrap_i64]; omega
      clear iv i64 t64 hkg hbx
      have HW := Lib.hid (wrap_nx y)
      have tk : IntKind.u64.wrap ((y : Int) + 1) = (nx y : Nat) := HW.out
      generalize hq : nx y = z at *
      clear hq HW
      generalize hq : l[k] = e at *
      clear hq
      rcases e with ⟨ei, et, ek, ed, eks⟩
      simp only at c0 c1 c2 c3 c4 HM IV
      have hB1 : Below wr.heap.size wr (wr.alloc (.cells #[.int .u64 (ei : Nat), .int .u64 (et : Nat), .int .u8 (ek : Nat), .string ed, .slice ua eks.length uc] 73)) := (Below.refl _ _).alloc (Nat.le_refl _) _
      have HC := Lib.hid (entry_check ei et ek ed eks (.slice ua eks.length uc) _ (((IV.out.more hz (Nat.zero_le _)).keep hB1).more hB1.size (Nat.le_refl _)))
      have HB1 := Lib.hid (HB.out.trans (hB1.mono hz))
      clear hB1
      by_cases h8 : k = 8
      · have HE : Hid (r = false) := HR.out.trans (by rw [decide_eq_false (by omega), Bool.and_false])
        have e8 : (k : Int) = 8 := by omega
        clear HM HR HA HC
        subst h8
        have hn8 : ((8 : Int) == (l.length : Int)) = false := by simp; omega
        have hn9 : ¬ (8 : Int) = (l.length : Int) := by omega
        have hl8 : (8 : Int) < (l.length : Int) := by omega
        clear hnx hne hlt2 e8
        go_wp2
        try rw [Exit.noGoto_ret]
        go_ret
        exact ⟨by rw [HE.out]; rfl, HB1.out⟩
      · have h8' : ¬ (k : Int) = 8 := by omega
        have h8'' : ((k : Int) == 8) = false := by simp; omega
        have HK8 := Lib.hid (show k + 1 ≤ 8 by omega)
        clear h8 hk8
        by_cases h1 : ei = z
        · subst h1
          cases h2 : enB ⟨ei, et, ek, ed, eks⟩
          · have HE : Hid (r = false) := HR.out.trans (by rw [HA.out, HM.out, if_pos rfl, h2]; rfl)
            rw [h2] at HC
            clear h2 HM HR HA
            go_wp2_with (go_at_call 68; go_loud ((with_reducible refine HC.out.mono ?_); rintro e w1 ⟨rfl, hb1⟩; have HB2 := Lib.hid (HB1.out.trans (hb1.mono HB1.out.size)); clear hb1))
            go_wp2
            try rw [Exit.noGoto_ret]
            go_ret
            exact ⟨by rw [HE.out]; rfl, HB2.out⟩
          · have HE : Hid (rowB x l = rowB ei (l.drop (k + 1))) := by show _ = _; rw [HA.out, HM.out, if_pos rfl, h2]; rfl
            rw [h2] at HC
            clear h2 HM HA
            go_wp2_with (go_at_call 68; go_loud ((with_reducible refine HC.out.mono ?_); rintro e w1 ⟨rfl, hb1⟩; have HB2 := Lib.hid (HB1.out.trans (hb1.mono HB1.out.size)); clear hb1))
            go_wp2
            go_roundg gg
            case measure => omega
            case rel => exact ⟨k + 1, ei, by have := HK.out; omega, HK8.out, rfl, by simp, by simp, HB2.out, HE.out⟩
        · have HE : Hid (r = false) := HR.out.trans (by rw [HA.out, HM.out, if_neg h1]; rfl)
          have h1' : ¬ (ei : Int) = (z : Int) := by omega
          have h1'' : ((ei : Int) != (z : Int)) = true := by simp; omega
          clear h1 HM HR HA HC
          go_wp2
          try rw [Exit.noGoto_ret]
          go_ret
          exact ⟨by rw [HE.out]; rfl, HB1.out⟩
end Lo
end Go.Proofs.Ytlkdjnnlbccjdaa

/-
  MESSAGES: what one is, whether it is right: msg.Check.
-/
namespace Go.Proofs.Ytlkdjnnlbccjdaa
open Go.RowKit
namespace Hd
open PM
set_option linter.unusedVariables false
structure Sn where
  i : Nat
  t : Nat
  ks : List Int
  d : ByteArray
structure Mg where
  k : Nat
  t : Nat
  x : Nat
  u : Nat
  c : Nat
  ok : Bool
  l : List Lo.En
  s : Sn
/-- A message's value: its entries lie at a (capacity cp), its snapshot's members are v. -/
def mgV (m : Mg) (a : Option Addr) (cp : Nat) (v : Value) : Value :=
  .agg #[.int .u8 (m.k : Nat), .int .u64 (m.t : Nat), .int .u64 (m.x : Nat), .int .u64 (m.u : Nat), .int .u64 (m.c : Nat), .bool m.ok, .slice a m.l.length cp, .int .u64 (m.s.i : Nat), .int .u64 (m.s.t : Nat), v, .string m.s.d]
def snOk (s : Sn) : Bool := if s.i = 0 then false else decide (chkS s.i s.t s.ks s.d = 0)
def owM (m : Mg) : Bool := ownB m.k m.x m.u m.c m.ok m.l.length (isN m.s.i m.s.t m.s.ks.length m.s.d)
def okM (m : Mg) : Bool := if m.t = 0 then false else if owM m = true then (if m.k = 3 then Lo.reB m.x m.l else if m.k = 5 then snOk m.s else true) else false
def erM (m : Mg) : Nat := if okM m = true then 0 else 4
theorem erM_t {m : Mg} (h : okM m = true) : erM m = 0 := by unfold erM; rw [if_pos h]
theorem erM_f {m : Mg} (h : okM m = false) : erM m = 4 := by unfold erM; rw [h]; rfl
set_option maxHeartbeats 4000000 in
theorem msg_check (m : Mg) (a : Option Addr) (cp : Nat) (v : Value) (w : World) {A : Nat} (hl : Lo.Sl w A w.heap.size a cp m.l) (hv : Lo.IntsR w A w.heap.size v m.s.ks) :
    Calls Try.prog 15 #[mgV m a cp v] w fun e w' => e = .returned (.int .i64 (erM m : Nat)) ∧ Below w.heap.size w w' := by
  have HOK : Hid (okM m = if m.t = 0 then false else if owM m = true then (if m.k = 3 then Lo.reB m.x m.l else if m.k = 5 then snOk m.s else true) else false) := rfl
  have HET := Lib.hid (@erM_t m)
  have HEF := Lib.hid (@erM_f m)
  have HOW : Hid (owM m = ownB m.k m.x m.u m.c m.ok m.l.length (isN m.s.i m.s.t m.s.ks.length m.s.d)) := rfl
  have HSN : Hid (snOk m.s = if m.s.i = 0 then false else decide (chkS m.s.i m.s.t m.s.ks m.s.d = 0)) := rfl
  unfold mgV
  generalize okM m = okm at *
  generalize erM m = er at *
  generalize owM m = ow at *
  generalize snOk m.s = sno at *
  obtain ⟨k, t, x, u, c, ok, l, si, st, sk, sd⟩ := m
  simp only at *
  obtain ⟨sa, sc, rfl⟩ := hv.slice
  have hB0 : Below w.heap.size w (w.alloc (.cells #[.int .u8 (k : Nat), .int .u64 (t : Nat), .int .u64 (x : Nat), .int .u64 (u : Nat), .int .u64 (c : Nat), .bool ok, .slice a l.length cp, .int .u64 (si : Nat), .int .u64 (st : Nat), .slice sa sk.length sc, .string sd] 29)) := (Below.refl _ w).alloc (Nat.le_refl _) _
  have HB0 := Lib.hid hB0
  have W0 := Lib.hid (show Bxn (w.alloc (.cells #[.int .u8 (k : Nat), .int .u64 (t : Nat), .int .u64 (x : Nat), .int .u64 (u : Nat), .int .u64 (c : Nat), .bool ok, .slice a l.length cp, .int .u64 (si : Nat), .int .u64 (st : Nat), .slice sa sk.length sc, .string sd] 29)) w.heap.size [.int .u8 (k : Nat), .int .u64 (t : Nat), .int .u64 (x : Nat), .int .u64 (u : Nat), .int .u64 (c : Nat), .bool ok, .slice a l.length cp, .int .u64 (si : Nat), .int .u64 (st : Nat), .slice sa sk.length sc, .string sd] from Bxn.made w _ _)
  have HL0 := Lib.hid ((hl.keep hB0).more hB0.size (Nat.le_refl _))
  have HV0 := Lib.hid ((hv.keep hB0).more hB0.size (Nat.le_refl _))
  have HO := Lib.hid (fun w => only_own k t x u c ok a l.length cp si st sa sk.length sc sd w)
  rw [← HOW.out] at HO
  clear hB0 hl hv HOW
  by_cases ht : t = 0
  · obtain rfl : er = 4 := HEF.out (by rw [HOK.out, if_pos ht])
    subst ht
    rw [show ((0 : Nat) : Int) = 0 from rfl] at HO HB0 W0 HL0 HV0 ⊢
    clear HOK HET HEF HO HSN
    go_enter Try.func15, Try.ntmps15
    go_wp2
    go_ret
    exact ⟨rfl, HB0.out⟩
  · have t1 : ¬ (t : Int) = 0 := by omega
    have t2 : ((t : Int) == 0) = false := by simp; omega
    cases ow
    · obtain rfl : er = 4 := HEF.out (by rw [HOK.out, if_neg ht]; rfl)
      clear HOK HET HEF HSN ht
      go_enter Try.func15, Try.ntmps15
      go_wp2_with (go_at_call 30; go_loud ((with_reducible refine (HO.out _).mono ?_); rintro e w1 ⟨rfl, hb⟩; have HB1 := Lib.hid (HB0.out.trans (hb.mono HB0.out.size)); clear hb))
      go_wp2
      go_ret
      exact ⟨rfl, HB1.out⟩
    · by_cases h3 : k = 3
      · subst h3
        rw [show ((3 : Nat) : Int) = 3 from rfl] at HO HB0 W0 HL0 HV0 ⊢
        have HR : Hid (okm = Lo.reB x l) := HOK.out.trans (by rw [if_neg ht, if_pos rfl, if_pos rfl])
        have HC := Lib.hid (fun z hb => Lo.right_ents x a cp l z (A := A) ((HL0.out.keep hb).more hb.size (Nat.le_refl _)))
        clear HOK HSN ht
        cases hr : Lo.reB x l
        · rw [hr] at HR HC
          obtain rfl : er = 4 := HEF.out HR.out
          clear hr HR HET HEF
          go_enter Try.func15, Try.ntmps15
          go_wp2_with (go_at_call 30; go_loud ((with_reducible refine (HO.out _).mono ?_); rintro e w1 ⟨rfl, hb⟩; have W1 := Lib.hid (W0.out.below hb); have HX1 := Lib.hid hb; have d0 : w1.cell? ⟨w.heap.size, 0, none⟩ = some (.int .u8 3) := W1.out.cell 0; have d2 : w1.cell? ⟨w.heap.size, 2, none⟩ = some (.int .u64 (x : Nat)) := W1.out.cell 2; have d6 : w1.cell? ⟨w.heap.size, 6, none⟩ = some (.slice a l.length cp) := W1.out.cell 6; have HB1 := Lib.hid (HB0.out.trans (hb.mono HB0.out.size)); clear hb))
          go_wp2_with (go_at_call 31; go_loud ((with_reducible refine (HC.out _ HX1.out).mono ?_); rintro e w2 ⟨rfl, hb⟩; have HB2 := Lib.hid (HB1.out.trans (hb.mono HB1.out.size)); clear hb))
          go_wp2
          go_ret
          exact ⟨rfl, HB2.out⟩
        · rw [hr] at HR HC
          obtain rfl : er = 0 := HET.out HR.out
          clear hr HR HET HEF
          go_enter Try.func15, Try.ntmps15
          go_wp2_with (go_at_call 30; go_loud ((with_reducible refine (HO.out _).mono ?_); rintro e w1 ⟨rfl, hb⟩; have W1 := Lib.hid (W0.out.below hb); have HX1 := Lib.hid hb; have d0 : w1.cell? ⟨w.heap.size, 0, none⟩ = some (.int .u8 3) := W1.out.cell 0; have d2 : w1.cell? ⟨w.heap.size, 2, none⟩ = some (.int .u64 (x : Nat)) := W1.out.cell 2; have d6 : w1.cell? ⟨w.heap.size, 6, none⟩ = some (.slice a l.length cp) := W1.out.cell 6; have HB1 := Lib.hid (HB0.out.trans (hb.mono HB0.out.size)); clear hb))
          go_wp2_with (go_at_call 31; go_loud ((with_reducible refine (HC.out _ HX1.out).mono ?_); rintro e w2 ⟨rfl, hb⟩; have HB2 := Lib.hid (HB1.out.trans (hb.mono HB1.out.size)); clear hb))
          go_wp2
          go_ret
          exact ⟨rfl, HB2.out⟩
      · have p3 : ¬ ((k : Int) = 3) := by omega
        have q3 : ((k : Int) == 3) = false := by simp; omega
        by_cases h5 : k = 5
        · subst h5
          rw [show ((5 : Nat) : Int) = 5 from rfl] at HO HB0 W0 HL0 HV0 ⊢
          have HR : Hid (okm = sno) := HOK.out.trans (by rw [if_neg ht, if_pos rfl, if_neg h3, if_pos rfl])
          clear HOK ht h3 p3 q3
          by_cases hi : si = 0
          · obtain rfl : er = 4 := HEF.out (by rw [HR.out, HSN.out, if_pos hi])
            subst hi
            rw [show ((0 : Nat) : Int) = 0 from rfl] at HO HB0 W0 HL0 HV0 ⊢
            clear HR HSN HET HEF
            go_enter Try.func15, Try.ntmps15
            go_wp2_with (go_at_call 30; go_loud ((with_reducible refine (HO.out _).mono ?_); rintro e w1 ⟨rfl, hb⟩; have W1 := Lib.hid (W0.out.below hb); have HX1 := Lib.hid hb; have d0 : w1.cell? ⟨w.heap.size, 0, none⟩ = some (.int .u8 5) := W1.out.cell 0; have d7 : w1.cell? ⟨w.heap.size, 7, none⟩ = some (.int .u64 0) := W1.out.cell 7; have HB1 := Lib.hid (HB0.out.trans (hb.mono HB0.out.size)); clear hb))
            go_wp2
            go_ret
            exact ⟨rfl, HB1.out⟩
          · have i1 : ¬ (si : Int) = 0 := by omega
            have i2 : ((si : Int) == 0) = false := by simp; omega
            have HC := Lib.hid (fun z hb => snap_check si st (.slice sa sk.length sc) sk sd z (((HV0.out.keep hb).more hb.size (Nat.le_refl _)).ints))
            generalize hq : chkS si st sk sd = q at *
            clear hq
            by_cases hc : q = 0
            · obtain rfl : er = 0 := HET.out (by rw [HR.out, HSN.out, if_neg hi, hc]; rfl)
              subst hc
              clear HR HSN HET HEF hi
              go_enter Try.func15, Try.ntmps15
              go_wp2_with (go_at_call 30; go_loud ((with_reducible refine (HO.out _).mono ?_); rintro e w1 ⟨rfl, hb⟩; have W1 := Lib.hid (W0.out.below hb); have HX1 := Lib.hid hb; have d0 : w1.cell? ⟨w.heap.size, 0, none⟩ = some (.int .u8 5) := W1.out.cell 0; have d7 : w1.cell? ⟨w.heap.size, 7, none⟩ = some (.int .u64 (si : Nat)) := W1.out.cell 7; have d8 : w1.cell? ⟨w.heap.size, 8, none⟩ = some (.int .u64 (st : Nat)) := W1.out.cell 8; have d9 : w1.cell? ⟨w.heap.size, 9, none⟩ = some (.slice sa sk.length sc) := W1.out.cell 9; have d10 : w1.cell? ⟨w.heap.size, 10, none⟩ = some (.string sd) := W1.out.cell 10; have HB1 := Lib.hid (HB0.out.trans (hb.mono HB0.out.size)); clear hb))
              go_wp2_with (go_at_call 32; go_loud ((with_reducible refine (HC.out _ HX1.out).mono ?_); rintro e w2 ⟨rfl, hb⟩; have HB2 := Lib.hid (HB1.out.trans (hb.mono HB1.out.size)); clear hb))
              go_wp2
              go_ret
              exact ⟨rfl, HB2.out⟩
            · obtain rfl : er = 4 := HEF.out (by rw [HR.out, HSN.out, if_neg hi, decide_eq_false hc])
              have c1 : ¬ (q : Int) = 0 := by omega
              have c2 : ((q : Int) != 0) = true := by simp; omega
              clear HR HSN HET HEF hi hc
              go_enter Try.func15, Try.ntmps15
              go_wp2_with (go_at_call 30; go_loud ((with_reducible refine (HO.out _).mono ?_); rintro e w1 ⟨rfl, hb⟩; have W1 := Lib.hid (W0.out.below hb); have HX1 := Lib.hid hb; have d0 : w1.cell? ⟨w.heap.size, 0, none⟩ = some (.int .u8 5) := W1.out.cell 0; have d7 : w1.cell? ⟨w.heap.size, 7, none⟩ = some (.int .u64 (si : Nat)) := W1.out.cell 7; have d8 : w1.cell? ⟨w.heap.size, 8, none⟩ = some (.int .u64 (st : Nat)) := W1.out.cell 8; have d9 : w1.cell? ⟨w.heap.size, 9, none⟩ = some (.slice sa sk.length sc) := W1.out.cell 9; have d10 : w1.cell? ⟨w.heap.size, 10, none⟩ = some (.string sd) := W1.out.cell 10; have HB1 := Lib.hid (HB0.out.trans (hb.mono HB0.out.size)); clear hb))
              go_wp2_with (go_at_call 32; go_loud ((with_reducible refine (HC.out _ HX1.out).mono ?_); rintro e w2 ⟨rfl, hb⟩; have HB2 := Lib.hid (HB1.out.trans (hb.mono HB1.out.size)); clear hb))
              go_wp2
              go_ret
              exact ⟨rfl, HB2.out⟩
        · have p5 : ¬ ((k : Int) = 5) := by omega
          have q5 : ((k : Int) == 5) = false := by simp; omega
          obtain rfl : er = 0 := HET.out (by rw [HOK.out, if_neg ht, if_pos rfl, if_neg h3, if_neg h5])
          clear HOK HET HEF HSN ht h3 h5
          go_enter Try.func15, Try.ntmps15
          go_wp2_with (go_at_call 30; go_loud ((with_reducible refine (HO.out _).mono ?_); rintro e w1 ⟨rfl, hb⟩; have W1 := Lib.hid (W0.out.below hb); have HX1 := Lib.hid hb; have d0 : w1.cell? ⟨w.heap.size, 0, none⟩ = some (.int .u8 (k : Nat)) := W1.out.cell 0; have HB1 := Lib.hid (HB0.out.trans (hb.mono HB0.out.size)); clear hb))
          go_wp2
          go_ret
          exact ⟨rfl, HB1.out⟩
end Hd
end Go.Proofs.Ytlkdjnnlbccjdaa
