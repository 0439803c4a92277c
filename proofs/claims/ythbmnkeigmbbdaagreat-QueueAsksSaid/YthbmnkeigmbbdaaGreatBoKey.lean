/-
  KEYS THAT RISE: where one stands, or would stand; something put in, something taken out.
-/
import Derived.Test.YthbmnkeigmbbdaaGreatBoRowG
import Derived.Test.YthbmnkeigmbbdaaGreatRgA
set_option linter.unusedVariables false
namespace Go.Proofs.YthbmnkeigmbbdaaGreat
open Go.RowKit
namespace Bo
def lsS (a b : ByteArray) : Bool := Op.bytesLess a.toList b.toList
theorem ls_irr (a : ByteArray) : lsS a a = false := Rg.lt_irr _
theorem ls_asym {a b : ByteArray} (h : lsS a b = true) : lsS b a = false := Rg.lt_asym _ _ h
theorem ls_con {a b : ByteArray} (h : lsS a b = false) (h2 : lsS b a = false) : a = b := Hd.ba_ext (Rg.lt_con _ _ h h2)
theorem ls_trans {a b c : ByteArray} (h : lsS a b = true) (h2 : lsS b c = true) : lsS a c = true := by
  unfold lsS at *
  rw [Go.Proofs.bytesLess_eq] at *
  simp only [decide_eq_true_eq] at *
  exact List.lt_trans h h2
theorem cmp_lt {a b : ByteArray} (h : lsS a b = true) : Rg.cmpS a b = -1 := Rg.cmp_neg _ _ h
theorem cmp_gt {a b : ByteArray} (h : lsS a b = false) (h2 : lsS b a = true) : Rg.cmpS a b = 1 := Rg.cmp_pos _ _ h h2
theorem cmp_eq (a : ByteArray) : Rg.cmpS a a = 0 := Rg.cmp_zero _ _ (ls_irr a) (ls_irr a)
/-- The keys rise, none twice. -/
def Ris (ks : List ByteArray) : Prop := ks.Pairwise (fun a b => lsS a b = true)
/-- How many are below x. -/
def lbK : List ByteArray → ByteArray → Nat
  | [], _ => 0
  | k :: r, x => if lsS k x = true then lbK r x + 1 else 0
def hasK (ks : List ByteArray) (x : ByteArray) : Bool := ks.any (fun k => decide (k = x))
theorem has_iff {ks : List ByteArray} {x : ByteArray} : hasK ks x = true ↔ x ∈ ks := by
  unfold hasK
  rw [List.any_eq_true]
  constructor
  · rintro ⟨y, hy, he⟩
    have : y = x := of_decide_eq_true he
    rwa [this] at hy
  · intro h
    exact ⟨x, h, decide_eq_true rfl⟩
theorem has_not {ks : List ByteArray} {x : ByteArray} : hasK ks x = false ↔ ¬ x ∈ ks := by rw [← has_iff]; simp
theorem lb_le (ks : List ByteArray) (x : ByteArray) : lbK ks x ≤ ks.length := by
  induction ks with
  | nil => simp [lbK]
  | cons k r ih => simp only [lbK, List.length_cons]; split <;> omega
theorem lb_below (ks : List ByteArray) (x : ByteArray) : ∀ i (h : i < ks.length), i < lbK ks x → lsS ks[i] x = true := by
  induction ks with
  | nil => intro i h; simp at h
  | cons k r ih =>
    intro i h hl
    simp only [lbK] at hl
    split at hl
    · cases i with
      | zero => assumption
      | succ i => exact ih i (by simpa using h) (by omega)
    · omega
theorem ris_get {ks : List ByteArray} (h : Ris ks) (i j : Nat) (hj : j < ks.length) (hij : i < j) : lsS ks[i] ks[j] = true := List.pairwise_iff_getElem.1 h i j (by omega) hj hij
theorem lb_above {ks : List ByteArray} (hr : Ris ks) (x : ByteArray) : ∀ i (h : i < ks.length), lbK ks x ≤ i → lsS ks[i] x = false := by
  induction ks with
  | nil => intro i h; simp at h
  | cons k r ih =>
    intro i h hl
    simp only [lbK] at hl
    have hr2 : Ris r := (List.pairwise_cons.1 hr).2
    split at hl
    · rename_i hk
      cases i with
      | zero => omega
      | succ i => exact ih hr2 i (by simpa using h) (by omega)
    · rename_i hk
      have hk0 : lsS k x = false := by simpa using hk
      cases i with
      | zero => exact hk0
      | succ i =>
        have h1 := (List.pairwise_cons.1 hr).1 (r[i]'(by simpa using h)) (List.getElem_mem _)
        show lsS (r[i]'(by simpa using h)) x = false
        cases hq : lsS (r[i]'(by simpa using h)) x with
        | false => rfl
        | true =>
          rw [ls_trans h1 hq] at hk0
          cases hk0
theorem has_at {ks : List ByteArray} (hr : Ris ks) (x : ByteArray) (h : lbK ks x < ks.length) : hasK ks x = (ks[lbK ks x].toList == x.toList) := by
  cases hb : (ks[lbK ks x].toList == x.toList) with
  | true =>
    rw [has_iff]
    have : ks[lbK ks x] = x := Hd.ba_ext (eq_of_beq hb)
    rw [← this]
    exact List.getElem_mem _
  | false =>
    rw [has_not]
    intro hm
    obtain ⟨i, hi, he⟩ := List.getElem_of_mem hm
    have h1 : lbK ks x ≤ i := by
      by_cases hl : i < lbK ks x
      · have := lb_below ks x i hi hl
        rw [he, ls_irr] at this; cases this
      · omega
    have h2 : i = lbK ks x := by
      by_cases h3 : i = lbK ks x
      · exact h3
      · have h4 := ris_get hr (lbK ks x) i hi (by omega)
        rw [he, lb_above hr x _ h (Nat.le_refl _)] at h4; cases h4
    subst h2
    rw [he] at hb
    simp at hb
theorem has_no {ks : List ByteArray} (hr : Ris ks) (x : ByteArray) (h : ¬ lbK ks x < ks.length) : hasK ks x = false := by
  rw [has_not]
  intro hm
  obtain ⟨i, hi, he⟩ := List.getElem_of_mem hm
  have := lb_below ks x i hi (by omega)
  rw [he, ls_irr] at this; cases this
theorem has_get {ks : List ByteArray} (hr : Ris ks) {x : ByteArray} (h : hasK ks x = true) : ∃ h : lbK ks x < ks.length, ks[lbK ks x] = x := by
  by_cases hl : lbK ks x < ks.length
  · refine ⟨hl, ?_⟩
    rw [has_at hr x hl] at h
    exact Hd.ba_ext (eq_of_beq h)
  · rw [has_no hr x hl] at h; cases h
/-- Whether the keys rise as far as n. -/
def adjB (ks : List ByteArray) (i : Nat) : Bool := if h : i < ks.length ∧ 0 < i then lsS (ks[i - 1]'(by omega)) (ks[i]'h.1) else true
def risT (ks : List ByteArray) (n : Nat) : Bool := (List.range n).all (adjB ks)
def risB (ks : List ByteArray) : Bool := risT ks ks.length
theorem risT_succ (ks : List ByteArray) (n : Nat) : risT ks (n + 1) = (risT ks n && adjB ks n) := by
  unfold risT
  rw [List.range_succ, List.all_append]
  simp
theorem ris_bad (ks : List ByteArray) (k : Nat) (h : k < ks.length) (hk : adjB ks k = false) : risB ks = false := by
  unfold risB risT
  rw [← Bool.not_eq_true, List.all_eq_true]
  intro ha
  have := ha k (List.mem_range.2 h)
  rw [hk] at this; cases this
theorem ris_iff (ks : List ByteArray) : risB ks = true ↔ Ris ks := by
  unfold risB risT Ris
  rw [List.all_eq_true]
  constructor
  · intro h
    have step : ∀ j (hj : j + 1 < ks.length), lsS ks[j] ks[j + 1] = true := by
      intro j hj
      have := h (j + 1) (List.mem_range.2 hj)
      unfold adjB at this
      rw [dif_pos ⟨hj, by omega⟩] at this
      exact this
    rw [List.pairwise_iff_getElem]
    intro i j hi hj hij
    obtain ⟨d, rfl⟩ : ∃ d, j = i + 1 + d := ⟨j - (i + 1), by omega⟩
    clear hij
    induction d with
    | zero => exact step i hj
    | succ d ih => exact ls_trans (ih (by omega)) (step (i + 1 + d) hj)
  · intro h j hj
    unfold adjB
    split
    · rename_i hc
      exact List.pairwise_iff_getElem.1 h _ _ _ _ (by omega)
    · rfl
/-- The place of the first one, below 0 if there is none. -/
def IxIs (b : Bool) (e : Ending) : Prop := ∃ r : Int, e = .returned (.int .i64 r) ∧ decide (0 ≤ r) = b ∧ -1 ≤ r
theorem IxIs.no {b : Bool} (h : b = false) : IxIs b (.returned (.int .i64 (-1))) := ⟨-1, rfl, by rw [h]; rfl, by omega⟩
theorem IxIs.yes {b : Bool} (h : b = true) (k : Nat) : IxIs b (.returned (.int .i64 (k : Nat))) := ⟨(k : Nat), rfl, by rw [h]; simp, by omega⟩
/-- Cells stored one behind the other. -/
theorem below_setCells {B b : Nat} {w w' : World} (h : Below B w w') (hb : B ≤ b) : ∀ (vs : List Value) (o : Nat), Below B w (w'.setCells b o vs)
  | [], _ => h
  | v :: r, o => by
    rw [World.setCells]
    exact below_setCells (h.setCell hb _) hb r (o + 1)
end Bo
end Go.Proofs.YthbmnkeigmbbdaaGreat
