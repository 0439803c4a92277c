/-
  PAIRS HELD AGAINST EACH OTHER: cmp.Compare, cmp.Or, rig.compare.
-/
import Derived.Test.YthnajkpnchaciaaRigArg
import Derived.Test.YthnajkpnchaciaaRigBear
import Derived.StillTailTactics
import Derived.Sort.Walk0
namespace Go.Proofs.Ythnajkpnchaciaa
open Go.RowKit
namespace Rg
theorem lt_irr (a : List UInt8) : Op.bytesLess a a = false := by
  rw [Go.Proofs.bytesLess_eq]; simp [List.lt_irrefl]
theorem lt_asym (a b : List UInt8) (h : Op.bytesLess a b = true) : Op.bytesLess b a = false := by
  rw [Go.Proofs.bytesLess_eq] at *
  simp only [decide_eq_true_eq, decide_eq_false_iff_not] at *
  exact List.lt_asymm h
theorem lt_con (a b : List UInt8) (h : Op.bytesLess a b = false) (h2 : Op.bytesLess b a = false) : a = b := by
  rw [Go.Proofs.bytesLess_eq] at *
  simp only [decide_eq_false_iff_not] at *
  exact List.le_antisymm h2 h
/-- How two texts stand. -/
def cmpS (a b : ByteArray) : Int := if Op.bytesLess a.toList b.toList = true then -1 else if Op.bytesLess b.toList a.toList = true then 1 else 0
def cmpP (p q : Pr) : Int := if cmpS p.k q.k = 0 then cmpS p.v q.v else cmpS p.k q.k
def risesB (p q : Pr) : Bool := Op.bytesLess p.k.toList q.k.toList || ((p.k.toList == q.k.toList) && Op.bytesLess p.v.toList q.v.toList)
theorem cmp_neg (a b : ByteArray) (h : Op.bytesLess a.toList b.toList = true) : cmpS a b = -1 := by unfold cmpS; rw [if_pos h]
theorem cmp_pos (a b : ByteArray) (h : Op.bytesLess a.toList b.toList = false) (h2 : Op.bytesLess b.toList a.toList = true) : cmpS a b = 1 := by unfold cmpS; rw [if_neg (by simp [h]), if_pos h2]
theorem cmp_zero (a b : ByteArray) (h : Op.bytesLess a.toList b.toList = false) (h2 : Op.bytesLess b.toList a.toList = false) : cmpS a b = 0 := by unfold cmpS; rw [if_neg (by simp [h]), if_neg (by simp [h2])]
theorem cmp_rises (p q : Pr) : decide (0 ≤ cmpP p q) = !(risesB p q) := by
  unfold cmpP risesB
  cases h1 : Op.bytesLess p.k.toList q.k.toList
  · cases h2 : Op.bytesLess q.k.toList p.k.toList
    · rw [cmp_zero _ _ h1 h2, if_pos rfl, lt_con _ _ h1 h2]
      cases h3 : Op.bytesLess p.v.toList q.v.toList
      · cases h4 : Op.bytesLess q.v.toList p.v.toList
        · rw [cmp_zero _ _ h3 h4]; simp
        · rw [cmp_pos _ _ h3 h4]; simp
      · rw [cmp_neg _ _ h3]; simp
    · rw [cmp_pos _ _ h1 h2, if_neg (by decide)]
      have hne : (p.k.toList == q.k.toList) = false := by
        rw [beq_eq_false_iff_ne]
        intro he
        rw [he, lt_irr] at h2; cases h2
      rw [hne]; simp
  · rw [cmp_neg _ _ h1, if_neg (by decide)]; simp
set_option maxHeartbeats 400000 in
theorem nan_any (s : ByteArray) (w : World) : Calls Try.prog 39 #[.string s] w fun e w' => e = .returned (.bool false) ∧ w = w' := by
  go_enter Try.func39, Try.ntmps39
  go_wp2
  go_ret
  exact ⟨by simp, rfl⟩
set_option maxHeartbeats 400000 in
theorem cmp_any (a b : ByteArray) (w : World) : Calls Try.prog 38 #[.string a, .string b] w fun e w' => e = .returned (.int .i64 (cmpS a b)) ∧ w = w' := by
  cases h1 : Op.bytesLess a.toList b.toList
  · cases h2 : Op.bytesLess b.toList a.toList
    · have HN := Lib.hid (cmp_zero a b h1 h2)
      have he : (a.toList == b.toList) = true := by rw [lt_con _ _ h1 h2]; simp
      go_enter Try.func38, Try.ntmps38
      go_wp2_with (go_at_call 39; refine (nan_any _ _).mono ?_; rintro e w' ⟨rfl, rfl⟩)
      go_ret
      exact ⟨by rw [HN.out]; rfl, rfl⟩
    · have HN := Lib.hid (cmp_pos a b h1 h2)
      have he : (a.toList == b.toList) = false := by
        rw [beq_eq_false_iff_ne]
        intro e
        rw [e, lt_irr] at h2; cases h2
      go_enter Try.func38, Try.ntmps38
      go_wp2_with (go_at_call 39; refine (nan_any _ _).mono ?_; rintro e w' ⟨rfl, rfl⟩)
      go_ret
      exact ⟨by rw [HN.out]; rfl, rfl⟩
  · have HN := Lib.hid (cmp_neg a b h1)
    go_enter Try.func38, Try.ntmps38
    go_wp2_with (go_at_call 39; refine (nan_any _ _).mono ?_; rintro e w' ⟨rfl, rfl⟩)
    go_ret
    exact ⟨by rw [HN.out]; rfl, rfl⟩
def orI (a b : Int) : Int := if a = 0 then b else a
set_option maxHeartbeats 800000 in
theorem or_any (a b : Int) (g : Nat) (w : World) (h0 : w.cell? ⟨g, 0, none⟩ = some (.int .i64 a)) (h1 : w.cell? ⟨g, 1, none⟩ = some (.int .i64 b)) :
    Calls Try.prog 37 #[.slice (some ⟨g, 0, none⟩) 2 2] w fun e w' => e = .returned (.int .i64 (orI a b)) ∧ w = w' := by
  have H0 := Lib.hid h0
  have H1 := Lib.hid h1
  clear h0 h1
  go_enter Try.func37, Try.ntmps37
  go_wp2
  go_loopg [8] 2 (fun gg i wx => wx = w ∧ ∃ k : Nat, k + gg = 2 ∧ i = .int .i64 k ∧ Aside ((0 < k → a = 0) ∧ (1 < k → b = 0)))
  case atStart => exact ⟨rfl, 0, by omega, rfl, by omega, by omega⟩
  case round =>
    obtain ⟨rfl, k, hkg, rfl, HAB⟩ := hrel
    obtain ⟨HA, HB⟩ := HAB.out
    cases gk with
    | zero =>
      obtain rfl : k = 2 := by omega
      have HN := Lib.hid (show orI a b = 0 by unfold orI; rw [if_pos (HA (by omega))]; exact HB (by omega))
      clear hkg HA HB
      go_wp2
      go_ret
      exact ⟨by rw [HN.out]; rfl, rfl⟩
    | succ gg =>
      have HG := Lib.hid hkg
      have h3 : k = 0 ∨ k = 1 := by omega
      clear hkg
      rcases h3 with rfl | rfl
      · have e0 := H0.out
        by_cases ha : a = 0
        · subst ha
          clear HA HB
          go_wp2
          go_roundg gg
          case measure => omega
          case rel => exact ⟨rfl, 1, by have := HG.out; omega, rfl, by first | exact ⟨fun _ => rfl, by omega⟩ | trivial | (show (_ ∧ _); simp) | (simp; trivial)⟩
        · have HN := Lib.hid (show orI a b = a by unfold orI; rw [if_neg ha])
          clear HA HB
          go_wp2
          go_ret
          exact ⟨by rw [HN.out]; rfl, rfl⟩
      · have e1 := H1.out
        have ha : a = 0 := HA (by omega)
        have HA2 := Lib.hid ha
        by_cases hb : b = 0
        · subst hb
          clear HA HB ha
          go_wp2
          go_roundg gg
          case measure => omega
          case rel => exact ⟨rfl, 2, by have := HG.out; omega, rfl, by first | exact ⟨fun _ => HA2.out, fun _ => rfl⟩ | (simp; exact HA2.out) | (show _ ∧ _; simp; exact HA2.out)⟩
        · have HN := Lib.hid (show orI a b = b by unfold orI; rw [if_pos ha])
          clear HA HB ha
          go_wp2
          go_ret
          exact ⟨by rw [HN.out]; rfl, rfl⟩
set_option maxHeartbeats 1000000 in
theorem compare_any (p q : Pr) (w : World) : Calls Try.prog 36 #[.agg #[.string p.k, .string p.v], .agg #[.string q.k, .string q.v]] w fun e w' => e = .returned (.int .i64 (cmpP p q)) ∧ Below w.heap.size w w' := by
  rcases p with ⟨k1, v1⟩
  rcases q with ⟨k2, v2⟩
  have HN : Hid (cmpP ⟨k1, v1⟩ ⟨k2, v2⟩ = orI (cmpS k1 k2) (cmpS v1 v2)) := rfl
  have C1 := fun w => cmp_any k1 k2 w
  have C2 := fun w => cmp_any v1 v2 w
  generalize cmpS k1 k2 = r1 at *
  generalize cmpS v1 v2 = r2 at *
  have H1 := Lib.hid C1
  have H2 := Lib.hid C2
  clear C1 C2
  go_enter Try.func36, Try.ntmps36
  go_wp2
  refine wp_region_still_tail 10 (by kernel_rfl) (by kernel_rfl) ?_
  simp only [List.take_succ_cons, List.take_zero, List.drop_succ_cons, List.drop_zero]
  change wpStill _ _ (World.drew ((w.alloc _).alloc _)) _ _ _
  still_step
  still_step
  still_step
  still_step
  still_call ((H1.out _).mono fun e w'' ⟨h, k⟩ => ⟨h, k.symm⟩)
  still_step
  still_step
  still_step
  still_step
  still_call ((H2.out _).mono fun e w'' ⟨h, k⟩ => ⟨h, k.symm⟩)
  refine wpStill_nil ?_
  change wpList _ _ _ _ _ (World.drew ((w.alloc _).alloc _))
  go_wp2_with fail
  refine (or_any r1 r2 (w.heap.size + 1 + 1) _ ?_ ?_).mono ?_
  · simp [go_sem]
  · simp [go_sem]
  rintro e w' ⟨rfl, rfl⟩
  go_wp2
  go_ret
  exact ⟨by rw [HN.out]; rfl, bdN ((two w _ _).alloc (by simp; omega) _) 1⟩
end Rg
end Go.Proofs.Ythnajkpnchaciaa
