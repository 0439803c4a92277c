/-
  A LOG's ENTRIES FROM ONE ON: log.behind, From.
-/
import Derived.Test.YtjalmciaaenmjaaLogClone
namespace Go.Proofs.Ytjalmciaaenmjaa
open Go.RowKit Go.Lib
namespace Lo
set_option maxHeartbeats 2000000 in
theorem behind_raw1 (b t x n q c : Nat) (a : Option Addr) (w : World) (hn : n ≤ c) (hq : q = n) (HM0 : ∀ z, Calls Try.prog 47 #[.agg #[.int .u64 (b : Nat), .int .u64 (t : Nat), .slice a n c], .int .u64 (x : Nat)] z fun e w' => e = .returned (.int .i64 (q : Nat)) ∧ Below z.heap.size z w') :
    Calls Try.prog 35 #[.agg #[.int .u64 (b : Nat), .int .u64 (t : Nat), .slice a n c], .int .u64 (x : Nat)] w fun e w' => e = .returned (.slice a 0 0) ∧ Below w.heap.size w w' := by
  subst hq
  have n1 : (q : Int) ≤ (c : Int) := by omega
  have n2 : (0 : Int) ≤ (q : Int) := by omega
  have HM := Lib.hid HM0
  clear HM0 hn
  have KB : Hid (∀ z, (z.cell? ⟨w.heap.size, 0, none⟩ = some (.int .u64 (b : Nat)) ∧ z.cell? ⟨w.heap.size, 1, none⟩ = some (.int .u64 (t : Nat)) ∧ z.cell? ⟨w.heap.size, 2, none⟩ = some (.slice a q c) ∧ Hid (Below w.heap.size w z ∧ w.heap.size + 1 ≤ z.heap.size)) → Below w.heap.size w z) := fun z h => h.2.2.2.out.1
  have K1 : Hid (∀ z, (z.cell? ⟨w.heap.size, 0, none⟩ = some (.int .u64 (b : Nat)) ∧ z.cell? ⟨w.heap.size, 1, none⟩ = some (.int .u64 (t : Nat)) ∧ z.cell? ⟨w.heap.size, 2, none⟩ = some (.slice a q c) ∧ Hid (Below w.heap.size w z ∧ w.heap.size + 1 ≤ z.heap.size)) → Calls Try.prog 47 #[.agg #[.int .u64 (b : Nat), .int .u64 (t : Nat), .slice a q c], .int .u64 (x : Nat)] z fun e z' => e = .returned (.int .i64 (q : Nat)) ∧ (z'.cell? ⟨w.heap.size, 0, none⟩ = some (.int .u64 (b : Nat)) ∧ z'.cell? ⟨w.heap.size, 1, none⟩ = some (.int .u64 (t : Nat)) ∧ z'.cell? ⟨w.heap.size, 2, none⟩ = some (.slice a q c) ∧ Hid (Below w.heap.size w z' ∧ w.heap.size + 1 ≤ z'.heap.size))) := by
    intro z h
    refine (HM.out z).mono ?_
    rintro e z' ⟨he, hb⟩
    obtain ⟨a0, a1, a2, hS⟩ := h
    have hz := hS.out.2
    exact ⟨he, (hb.cell (by show w.heap.size < _; omega)).trans a0, (hb.cell (by show w.heap.size < _; omega)).trans a1, (hb.cell (by show w.heap.size < _; omega)).trans a2, hS.out.1.trans (hb.mono (by omega)), by have := hb.size; omega⟩
  have KD : Hid ((w.alloc (.cells #[.int .u64 (b : Nat), .int .u64 (t : Nat), .slice a q c] 25)).drew.cell? ⟨w.heap.size, 0, none⟩ = some (.int .u64 (b : Nat)) ∧ (w.alloc (.cells #[.int .u64 (b : Nat), .int .u64 (t : Nat), .slice a q c] 25)).drew.cell? ⟨w.heap.size, 1, none⟩ = some (.int .u64 (t : Nat)) ∧ (w.alloc (.cells #[.int .u64 (b : Nat), .int .u64 (t : Nat), .slice a q c] 25)).drew.cell? ⟨w.heap.size, 2, none⟩ = some (.slice a q c) ∧ Hid (Below w.heap.size w (w.alloc (.cells #[.int .u64 (b : Nat), .int .u64 (t : Nat), .slice a q c] 25)).drew ∧ w.heap.size + 1 ≤ (w.alloc (.cells #[.int .u64 (b : Nat), .int .u64 (t : Nat), .slice a q c] 25)).drew.heap.size)) := by
    refine ⟨by simp [go_sem], by simp [go_sem], by simp [go_sem], ((Below.refl _ _).alloc (Nat.le_refl _) _).drew, by show _ ≤ (w.alloc _).heap.size; simp⟩
  clear HM
  go_enter Try.func35, Try.ntmps35
  go_wp2
  go_region_held3 (fun z => z.cell? ⟨w.heap.size, 0, none⟩ = some (.int .u64 (b : Nat)) ∧ z.cell? ⟨w.heap.size, 1, none⟩ = some (.int .u64 (t : Nat)) ∧ z.cell? ⟨w.heap.size, 2, none⟩ = some (.slice a q c) ∧ Hid (Below w.heap.size w z ∧ w.heap.size + 1 ≤ z.heap.size)) (first | assumption | exact KD.out)
    (first
      | (go_at_call 47; go_loud ((with_reducible refine (K1.out _ ?_).mono ?_); assumption; rintro e w7 ⟨rfl, hS⟩)))
  all_goals
    go_wp2
    go_ret
    exact ⟨rfl, KB.out _ hS⟩
set_option maxHeartbeats 2000000 in
theorem behind_raw2 (b t x n q c : Nat) (blk off : Nat) (w : World) (hn : n ≤ c) (hq : q < n) (HM0 : ∀ z, Calls Try.prog 47 #[.agg #[.int .u64 (b : Nat), .int .u64 (t : Nat), .slice (some ⟨blk, off, none⟩) n c], .int .u64 (x : Nat)] z fun e w' => e = .returned (.int .i64 (q : Nat)) ∧ Below z.heap.size z w') :
    Calls Try.prog 35 #[.agg #[.int .u64 (b : Nat), .int .u64 (t : Nat), .slice (some ⟨blk, off, none⟩) n c], .int .u64 (x : Nat)] w fun e w' => e = .returned (.slice (some ⟨blk, off + q * 5, none⟩) (n - q) (n - q)) ∧ Below w.heap.size w w' := by
  have n1 : (n : Int) ≤ (c : Int) := by omega
  have n2 : (0 : Int) ≤ (q : Int) := by omega
  have n3 : (q : Int) ≤ (n : Int) := by omega
  have n4 : ¬ n = q := by omega
  have n5 : ¬ (n - q = 0) := by omega
  have HM := Lib.hid HM0
  clear HM0 hn hq
  have KB : Hid (∀ z, (z.cell? ⟨w.heap.size, 0, none⟩ = some (.int .u64 (b : Nat)) ∧ z.cell? ⟨w.heap.size, 1, none⟩ = some (.int .u64 (t : Nat)) ∧ z.cell? ⟨w.heap.size, 2, none⟩ = some (.slice (some ⟨blk, off, none⟩) n c) ∧ Hid (Below w.heap.size w z ∧ w.heap.size + 1 ≤ z.heap.size)) → Below w.heap.size w z) := fun z h => h.2.2.2.out.1
  have K1 : Hid (∀ z, (z.cell? ⟨w.heap.size, 0, none⟩ = some (.int .u64 (b : Nat)) ∧ z.cell? ⟨w.heap.size, 1, none⟩ = some (.int .u64 (t : Nat)) ∧ z.cell? ⟨w.heap.size, 2, none⟩ = some (.slice (some ⟨blk, off, none⟩) n c) ∧ Hid (Below w.heap.size w z ∧ w.heap.size + 1 ≤ z.heap.size)) → Calls Try.prog 47 #[.agg #[.int .u64 (b : Nat), .int .u64 (t : Nat), .slice (some ⟨blk, off, none⟩) n c], .int .u64 (x : Nat)] z fun e z' => e = .returned (.int .i64 (q : Nat)) ∧ (z'.cell? ⟨w.heap.size, 0, none⟩ = some (.int .u64 (b : Nat)) ∧ z'.cell? ⟨w.heap.size, 1, none⟩ = some (.int .u64 (t : Nat)) ∧ z'.cell? ⟨w.heap.size, 2, none⟩ = some (.slice (some ⟨blk, off, none⟩) n c) ∧ Hid (Below w.heap.size w z' ∧ w.heap.size + 1 ≤ z'.heap.size))) := by
    intro z h
    refine (HM.out z).mono ?_
    rintro e z' ⟨he, hb⟩
    obtain ⟨a0, a1, a2, hS⟩ := h
    have hz := hS.out.2
    exact ⟨he, (hb.cell (by show w.heap.size < _; omega)).trans a0, (hb.cell (by show w.heap.size < _; omega)).trans a1, (hb.cell (by show w.heap.size < _; omega)).trans a2, hS.out.1.trans (hb.mono (by omega)), by have := hb.size; omega⟩
  have KD : Hid ((w.alloc (.cells #[.int .u64 (b : Nat), .int .u64 (t : Nat), .slice (some ⟨blk, off, none⟩) n c] 25)).drew.cell? ⟨w.heap.size, 0, none⟩ = some (.int .u64 (b : Nat)) ∧ (w.alloc (.cells #[.int .u64 (b : Nat), .int .u64 (t : Nat), .slice (some ⟨blk, off, none⟩) n c] 25)).drew.cell? ⟨w.heap.size, 1, none⟩ = some (.int .u64 (t : Nat)) ∧ (w.alloc (.cells #[.int .u64 (b : Nat), .int .u64 (t : Nat), .slice (some ⟨blk, off, none⟩) n c] 25)).drew.cell? ⟨w.heap.size, 2, none⟩ = some (.slice (some ⟨blk, off, none⟩) n c) ∧ Hid (Below w.heap.size w (w.alloc (.cells #[.int .u64 (b : Nat), .int .u64 (t : Nat), .slice (some ⟨blk, off, none⟩) n c] 25)).drew ∧ w.heap.size + 1 ≤ (w.alloc (.cells #[.int .u64 (b : Nat), .int .u64 (t : Nat), .slice (some ⟨blk, off, none⟩) n c] 25)).drew.heap.size)) := by
    refine ⟨by simp [go_sem], by simp [go_sem], by simp [go_sem], ((Below.refl _ _).alloc (Nat.le_refl _) _).drew, by show _ ≤ (w.alloc _).heap.size; simp⟩
  clear HM
  go_enter Try.func35, Try.ntmps35
  go_wp2
  go_region_held3 (fun z => z.cell? ⟨w.heap.size, 0, none⟩ = some (.int .u64 (b : Nat)) ∧ z.cell? ⟨w.heap.size, 1, none⟩ = some (.int .u64 (t : Nat)) ∧ z.cell? ⟨w.heap.size, 2, none⟩ = some (.slice (some ⟨blk, off, none⟩) n c) ∧ Hid (Below w.heap.size w z ∧ w.heap.size + 1 ≤ z.heap.size)) (first | assumption | exact KD.out)
    (first
      | (go_at_call 47; go_loud ((with_reducible refine (K1.out _ ?_).mono ?_); assumption; rintro e w7 ⟨rfl, hS⟩)))
  all_goals
    go_wp2
    go_ret
    exact ⟨rfl, KB.out _ hS⟩
theorem behind_of (b t x : Nat) (a : Option Addr) (c : Nat) (l : List En) (w : World) {A B : Nat} (h : Sl w A B a c l) (hB : B ≤ w.heap.size) (hx : Lt64 x) (hb : Lt64 b) :
    Calls Try.prog 35 #[.agg #[.int .u64 (b : Nat), .int .u64 (t : Nat), .slice a l.length c], .int .u64 (x : Nat)] w fun e w' => (∃ a', e = .returned (.slice a' (l.drop (mny b l.length x)).length (l.drop (mny b l.length x)).length) ∧ Sl w' A B a' (l.drop (mny b l.length x)).length (l.drop (mny b l.length x))) ∧ Below w.heap.size w w' := by
  have HM := fun z => many_of b t x l.length a c z h.len hx hb
  have hq := mny_le b l.length x
  generalize mny b l.length x = q at *
  by_cases hql : q = l.length
  · refine (behind_raw1 b t x l.length q c a w h.cap hql HM).mono ?_
    rintro e w' ⟨rfl, hb⟩
    rw [List.drop_eq_nil_of_le (by omega)]
    exact ⟨⟨a, rfl, Sl.empty _ _ _ _ _ (fun _ => rfl)⟩, hb⟩
  · obtain ⟨blk, off, rfl, -⟩ := h.at q (by omega)
    refine (behind_raw2 b t x l.length q c blk off w h.cap (by omega) HM).mono ?_
    rintro e w' ⟨rfl, hb⟩
    exact ⟨⟨_, by rw [List.length_drop], (h.keep (hb.mono hB)).drop q _ (Nat.le_refl _)⟩, hb⟩
theorem clone_take (a : Option Addr) (c : Nat) (r : List En) (k : Nat) (w : World) {A : Nat} (h : Sl w A w.heap.size a c r) (hk : k ≤ r.length) :
    Calls Try.prog 36 #[.slice a k k] w fun e w' => (∃ a' c', e = .returned (.slice a' k c') ∧ OwnS w' w.heap.size a' c' (r.take k)) ∧ Below w.heap.size w w' := by
  have := clone_of a (r.take k).length (r.take k) w (h.take k)
  rw [List.length_take, Nat.min_eq_left hk] at this
  exact this
/-- What From comes to. -/
def frN (m : Int) (n : Nat) : Nat := if m < 0 then 0 else min m.toNat n
def frL (b t : Nat) (l : List En) (x : Nat) (m : Int) : List En := if okB b t l = true then (if x ≤ b then [] else (l.drop (mny b l.length (x - 1))).take (frN m (l.drop (mny b l.length (x - 1))).length)) else []
def frE (b t : Nat) (l : List En) (x : Nat) : Nat := if okB b t l = true then (if x ≤ b then 15 else 0) else 10
def FromIs (w : World) (b t : Nat) (l : List En) (x : Nat) (m : Int) (e : Ending) (w' : World) : Prop :=
  ∃ a c, e = .returned (.tuple #[.slice a (frL b t l x m).length c, .int .i64 (frE b t l x : Nat)]) ∧ OwnS w' w.heap.size a c (frL b t l x m)
theorem FromIs.none {w w' : World} {b t : Nat} {l : List En} {x : Nat} {m : Int} {r : Nat} (h : frL b t l x m = []) (he : frE b t l x = r) : FromIs w b t l x m (.returned (.tuple #[.slice none 0 0, .int .i64 (r : Nat)])) w' :=
  ⟨Option.none, 0, by rw [h, he]; rfl, by rw [h]; exact ⟨(fun h => absurd h (by simp)), by simp, fun _ => rfl, by simp⟩⟩
theorem FromIs.some {w w' : World} {b t : Nat} {l : List En} {x : Nat} {m : Int} {a : Option Addr} {c k B : Nat} {r : List En} (h : frL b t l x m = r.take k) (hk : k ≤ r.length) (he : frE b t l x = 0) (ho : OwnS w' B a c (r.take k)) (hB : w.heap.size ≤ B) : FromIs w b t l x m (.returned (.tuple #[.slice a k c, .int .i64 0])) w' :=
  ⟨a, c, by rw [h, he, List.length_take, Nat.min_eq_left hk]; rfl, by rw [h]; exact ho.less hB⟩
theorem Sl.box {w : World} {A B : Nat} {a : Option Addr} {c : Nat} {l : List En} (h : Sl w A B a c l) {p : Nat} (hp : p < A ∨ B ≤ p) (j : Nat) (v : Value) : Sl (w.setCell ⟨p, j, none⟩ v) A B a c l := by
  refine ⟨fun hl => ?_, h.cap, h.nil, h.len⟩
  obtain ⟨b, off, rfl, hA, hB, hc⟩ := h.mem hl
  exact ⟨b, off, rfl, hA, hB, fun i hi => (hc i hi).imp fun u hu => hu.put hp j (fun e => by omega) v⟩
/-- The entries lie below block P: what is written at P leaves them. -/
theorem Sl.lowput {w w2 : World} {A P : Nat} {a : Option Addr} {c : Nat} {l : List En} (h : Sl w A P a c l) (hb : Below P w w2) (v : Value) (j : Nat) : Sl (w2.setCell ⟨P, j, none⟩ v) A P a c l := (h.keep hb).box (.inr (Nat.le_refl _)) j v
set_option maxHeartbeats 4000000 in
theorem the_from (b t x : Nat) (m : Int) (a : Option Addr) (c : Nat) (l : List En) (w : World) {A : Nat} (h : Sl w A w.heap.size a c l) (hb : Lt64 b) (hx : Lt64 x) :
    Calls Try.prog 13 #[.agg #[.int .u64 (b : Nat), .int .u64 (t : Nat), .slice a l.length c], .int .u64 (x : Nat), .int .i64 m] w fun e w' => FromIs w b t l x m e w' ∧ Below w.heap.size w w' := by
  have hB : Below w.heap.size w (w.alloc (.cells #[.int .u64 (b : Nat), .int .u64 (t : Nat), .slice a l.length c] 25)) := (Below.refl _ _).alloc (Nat.le_refl _) _
  have HC := Lib.hid (log_check b t a c l _ (h.on hB))
  have HS := Lib.hid (h.keep hB)
  have HB := Lib.hid hB
  have HFL : Hid (frL b t l x m = if okB b t l = true then (if x ≤ b then [] else (l.drop (mny b l.length (x - 1))).take (frN m (l.drop (mny b l.length (x - 1))).length)) else []) := rfl
  have HFE : Hid (frE b t l x = if okB b t l = true then (if x ≤ b then 15 else 0) else 10) := rfl
  clear hB h
  cases hk : okB b t l
  · rw [hk] at HC HFL HFE
    have HP := Lib.hid (fun w' => FromIs.none (w := w) (w' := w') (m := m) HFL.out HFE.out)
    clear hk HS hb hx HFL HFE
    go_enter Try.func13, Try.ntmps13
    go_wp2_with (go_at_call 22; go_loud ((with_reducible refine HC.out.mono ?_); rintro e w1 ⟨rfl, hb1⟩; have hz1 := hb1.size; have HB1 := Lib.hid (HB.out.trans (hb1.mono HB.out.size)); have HL1 := Lib.hid hb1; clear hb1))
    go_wp2
    go_ret2
    exact ⟨HP.out _, HB1.out⟩
  · rw [hk] at HC HFL HFE
    simp only [if_true] at HC HFL HFE
    by_cases h1 : x ≤ b
    · rw [if_pos h1] at HFL HFE
      have HP := Lib.hid (fun w' => FromIs.none (w := w) (w' := w') (m := m) HFL.out HFE.out)
      have h1' : (x : Int) ≤ (b : Int) := by omega
      clear hk HS hb hx HFL HFE h1
      go_enter Try.func13, Try.ntmps13
      go_wp2_with (go_at_call 22; go_loud ((with_reducible refine HC.out.mono ?_); rintro e w1 ⟨rfl, hb1⟩; have hz1 := hb1.size; have d0 := hb1.cell (p := ⟨w.heap.size, 0, none⟩) (by simp); have d1 := hb1.cell (p := ⟨w.heap.size, 1, none⟩) (by simp); have d2 := hb1.cell (p := ⟨w.heap.size, 2, none⟩) (by simp); simp [go_sem] at d0 d1 d2; have HB1 := Lib.hid (HB.out.trans (hb1.mono HB.out.size)); have HL1 := Lib.hid hb1; clear hb1))
      go_wp2
      go_ret2
      exact ⟨HP.out _, HB1.out⟩
    · rw [if_neg h1] at HFL HFE
      have h1' : ¬ (x : Int) ≤ (b : Int) := by omega
      have h1x : decide ((x : Int) ≤ (b : Int)) = false := by simpa using h1'
      have h1y : decide (x ≤ b) = false := by simpa using h1
      obtain ⟨y, hy⟩ : ∃ y, x = y + 1 := ⟨x - 1, by omega⟩
      have tk : IntKind.u64.wrap ((x : Int) - 1) = (y : Int) := by unfold Lt64 at hx; rw [IntKind.wrap_u64]; omega
      have hyl : Lt64 y := by unfold Lt64 at *; omega
      rw [show x - 1 = y by omega] at HFL
      have HBH := Lib.hid (fun w1 (hb1 : Below (w.alloc (.cells #[.int .u64 (b : Nat), .int .u64 (t : Nat), .slice a l.length c] 25)).heap.size (w.alloc (.cells #[.int .u64 (b : Nat), .int .u64 (t : Nat), .slice a l.length c] 25)) w1) => behind_of b t y a c l w1 (HS.out.keep (hb1.mono (by simp))) (by have := hb1.size; simp at this; omega) hyl hb)
      have hrl : (l.drop (mny b l.length y)).length ≤ 2199023255551 := by have := HS.out.len; rw [List.length_drop]; omega
      generalize l.drop (mny b l.length y) = r at *
      clear hk HS hb hx h1 hy hyl
      by_cases m1 : (r.length : Int) < m
      · by_cases m2 : r.length = 0
        · have m4 : ¬ (0 : Int) < (r.length : Int) := by omega
          have m5 : decide ((r.length : Int) < m) = true := by simpa using m1
          have m6 : decide ((0 : Int) < (r.length : Int)) = false := by simpa using m4
          have hk : 0 ≤ r.length := by omega
          have HFR : Hid (frN m r.length = 0) := by show _ = _; unfold frN; split <;> omega
          have HCT := Lib.hid (fun (a2 : Option Addr) (w2 : World) (hs : Sl w2 A w.heap.size a2 r.length r) (hz : w.heap.size ≤ w2.heap.size) => clone_take a2 r.length r (0) _ ((hs.lowput (Below.refl _ _) (.slice a2 r.length r.length) 2).more (by simpa using hz) (Nat.le_refl _)) hk)
          have HKL := Lib.hid hk
          have HFX : Hid (frL b t l x m = r.take (0)) := HFL.out.trans (by rw [HFR.out])
          clear hk HFR
          clear m2
          go_enter Try.func13, Try.ntmps13
          go_wp2_with (go_at_call 22; go_loud ((with_reducible refine HC.out.mono ?_); rintro e w1 ⟨rfl, hb1⟩; have hz1 := hb1.size; have d0 := hb1.cell (p := ⟨w.heap.size, 0, none⟩) (by simp); have d1 := hb1.cell (p := ⟨w.heap.size, 1, none⟩) (by simp); have d2 := hb1.cell (p := ⟨w.heap.size, 2, none⟩) (by simp); simp [go_sem] at d0 d1 d2; have HB1 := Lib.hid (HB.out.trans (hb1.mono HB.out.size)); have HL1 := Lib.hid hb1; have f2 := hb1.frozen (p := ⟨w.heap.size, 2, none⟩) (by simp); simp [go_sem] at f2; clear hb1))
          go_wp2_with (go_at_call 35; go_loud ((with_reducible refine (HBH.out _ HL1.out).mono ?_); rintro e w2 ⟨⟨a2, rfl, hs2⟩, hb2⟩; have hz2 := hb2.size; have d0 := (hb2.cell (p := ⟨w.heap.size, 0, none⟩) (by show w.heap.size < _; simp at hz1; omega)).trans d0; have d1 := (hb2.cell (p := ⟨w.heap.size, 1, none⟩) (by show w.heap.size < _; simp at hz1; omega)).trans d1; have d2 := (hb2.cell (p := ⟨w.heap.size, 2, none⟩) (by show w.heap.size < _; simp at hz1; omega)).trans d2; have g2 := (hb2.frozen (p := ⟨w.heap.size, 2, none⟩) (by show w.heap.size < _; simp at hz1; omega)).trans f2; have HB2 := Lib.hid (HB1.out.trans (hb2.mono HB1.out.size)); have HS2 := Lib.hid hs2; have HZ2 := Lib.hid hz2; clear hb2 hs2))
          go_wp2_with (go_at_call 36; go_loud ((with_reducible refine (HCT.out _ _ HS2.out HB2.out.size).mono ?_); rintro e w3 ⟨⟨a3, c3, rfl, ho3⟩, hb3⟩; have HO3 := Lib.hid ho3; have HB3 := Lib.hid ((HB2.out.setCell (p := ⟨w.heap.size, 2, none⟩) (Nat.le_refl _) (.slice a2 r.length r.length)).trans (hb3.mono (by have := HB2.out.size; simpa using this))); clear hb3 ho3))
          go_wp2
          go_ret2
          exact ⟨FromIs.some HFX.out HKL.out HFE.out HO3.out (by have := HB2.out.size; simpa using this), HB3.out⟩
        · have m4 : (0 : Int) < (r.length : Int) := by omega
          have m5 : decide ((r.length : Int) < m) = true := by simpa using m1
          have m6 : decide ((0 : Int) < (r.length : Int)) = true := by simpa using m4
          have hk : r.length ≤ r.length := by omega
          have HFR : Hid (frN m r.length = r.length) := by show _ = _; unfold frN; rw [if_neg (by omega)]; omega
          have HCT := Lib.hid (fun (a2 : Option Addr) (w2 : World) (hs : Sl w2 A w.heap.size a2 r.length r) (hz : w.heap.size ≤ w2.heap.size) => clone_take a2 r.length r (r.length) _ ((hs.lowput (Below.refl _ _) (.slice a2 r.length r.length) 2).more (by simpa using hz) (Nat.le_refl _)) hk)
          have HKL := Lib.hid hk
          have HFX : Hid (frL b t l x m = r.take (r.length)) := HFL.out.trans (by rw [HFR.out])
          clear hk HFR
          clear m2
          go_enter Try.func13, Try.ntmps13
          go_wp2_with (go_at_call 22; go_loud ((with_reducible refine HC.out.mono ?_); rintro e w1 ⟨rfl, hb1⟩; have hz1 := hb1.size; have d0 := hb1.cell (p := ⟨w.heap.size, 0, none⟩) (by simp); have d1 := hb1.cell (p := ⟨w.heap.size, 1, none⟩) (by simp); have d2 := hb1.cell (p := ⟨w.heap.size, 2, none⟩) (by simp); simp [go_sem] at d0 d1 d2; have HB1 := Lib.hid (HB.out.trans (hb1.mono HB.out.size)); have HL1 := Lib.hid hb1; have f2 := hb1.frozen (p := ⟨w.heap.size, 2, none⟩) (by simp); simp [go_sem] at f2; clear hb1))
          go_wp2_with (go_at_call 35; go_loud ((with_reducible refine (HBH.out _ HL1.out).mono ?_); rintro e w2 ⟨⟨a2, rfl, hs2⟩, hb2⟩; have hz2 := hb2.size; have d0 := (hb2.cell (p := ⟨w.heap.size, 0, none⟩) (by show w.heap.size < _; simp at hz1; omega)).trans d0; have d1 := (hb2.cell (p := ⟨w.heap.size, 1, none⟩) (by show w.heap.size < _; simp at hz1; omega)).trans d1; have d2 := (hb2.cell (p := ⟨w.heap.size, 2, none⟩) (by show w.heap.size < _; simp at hz1; omega)).trans d2; have g2 := (hb2.frozen (p := ⟨w.heap.size, 2, none⟩) (by show w.heap.size < _; simp at hz1; omega)).trans f2; have HB2 := Lib.hid (HB1.out.trans (hb2.mono HB1.out.size)); have HS2 := Lib.hid hs2; have HZ2 := Lib.hid hz2; clear hb2 hs2))
          go_wp2_with (go_at_call 36; go_loud ((with_reducible refine (HCT.out _ _ HS2.out HB2.out.size).mono ?_); rintro e w3 ⟨⟨a3, c3, rfl, ho3⟩, hb3⟩; have HO3 := Lib.hid ho3; have HB3 := Lib.hid ((HB2.out.setCell (p := ⟨w.heap.size, 2, none⟩) (Nat.le_refl _) (.slice a2 r.length r.length)).trans (hb3.mono (by have := HB2.out.size; simpa using this))); clear hb3 ho3))
          go_wp2
          go_ret2
          exact ⟨FromIs.some HFX.out HKL.out HFE.out HO3.out (by have := HB2.out.size; simpa using this), HB3.out⟩
      · by_cases m2 : (0 : Int) < m
        · obtain ⟨j, rfl⟩ : ∃ j : Nat, m = (j : Int) := ⟨m.toNat, by omega⟩
          have m5 : decide ((r.length : Int) < (j : Int)) = false := by simpa using m1
          have m7 : ¬ r.length < j := by omega
          have m8 : decide (r.length < j) = false := by simpa using m7
          have m9 : decide ((0 : Int) < (j : Int)) = true := by simpa using m2
          have m10 : 0 < j := by omega
          have m11 : (0 : Int) ≤ (j : Int) := by omega
          have m12 : (j : Int) ≤ (r.length : Int) := by omega
          have hk : j ≤ r.length := by omega
          have HFR : Hid (frN (j : Int) r.length = j) := by show _ = _; unfold frN; rw [if_neg (by omega)]; omega
          have HCT := Lib.hid (fun (a2 : Option Addr) (w2 : World) (hs : Sl w2 A w.heap.size a2 r.length r) (hz : w.heap.size ≤ w2.heap.size) => clone_take a2 r.length r (j) _ ((hs.lowput (Below.refl _ _) (.slice a2 r.length r.length) 2).more (by simpa using hz) (Nat.le_refl _)) hk)
          have HKL := Lib.hid hk
          have HFX : Hid (frL b t l x (j : Int) = r.take (j)) := HFL.out.trans (by rw [HFR.out])
          clear hk HFR
          go_enter Try.func13, Try.ntmps13
          go_wp2_with (go_at_call 22; go_loud ((with_reducible refine HC.out.mono ?_); rintro e w1 ⟨rfl, hb1⟩; have hz1 := hb1.size; have d0 := hb1.cell (p := ⟨w.heap.size, 0, none⟩) (by simp); have d1 := hb1.cell (p := ⟨w.heap.size, 1, none⟩) (by simp); have d2 := hb1.cell (p := ⟨w.heap.size, 2, none⟩) (by simp); simp [go_sem] at d0 d1 d2; have HB1 := Lib.hid (HB.out.trans (hb1.mono HB.out.size)); have HL1 := Lib.hid hb1; have f2 := hb1.frozen (p := ⟨w.heap.size, 2, none⟩) (by simp); simp [go_sem] at f2; clear hb1))
          go_wp2_with (go_at_call 35; go_loud ((with_reducible refine (HBH.out _ HL1.out).mono ?_); rintro e w2 ⟨⟨a2, rfl, hs2⟩, hb2⟩; have hz2 := hb2.size; have d0 := (hb2.cell (p := ⟨w.heap.size, 0, none⟩) (by show w.heap.size < _; simp at hz1; omega)).trans d0; have d1 := (hb2.cell (p := ⟨w.heap.size, 1, none⟩) (by show w.heap.size < _; simp at hz1; omega)).trans d1; have d2 := (hb2.cell (p := ⟨w.heap.size, 2, none⟩) (by show w.heap.size < _; simp at hz1; omega)).trans d2; have g2 := (hb2.frozen (p := ⟨w.heap.size, 2, none⟩) (by show w.heap.size < _; simp at hz1; omega)).trans f2; have HB2 := Lib.hid (HB1.out.trans (hb2.mono HB1.out.size)); have HS2 := Lib.hid hs2; have HZ2 := Lib.hid hz2; clear hb2 hs2))
          go_wp2_with (go_at_call 36; go_loud ((with_reducible refine (HCT.out _ _ HS2.out HB2.out.size).mono ?_); rintro e w3 ⟨⟨a3, c3, rfl, ho3⟩, hb3⟩; have HO3 := Lib.hid ho3; have HB3 := Lib.hid ((HB2.out.setCell (p := ⟨w.heap.size, 2, none⟩) (Nat.le_refl _) (.slice a2 r.length r.length)).trans (hb3.mono (by have := HB2.out.size; simpa using this))); clear hb3 ho3))
          go_wp2
          go_ret2
          exact ⟨FromIs.some HFX.out HKL.out HFE.out HO3.out (by have := HB2.out.size; simpa using this), HB3.out⟩
        · have m4 : ¬ (0 : Int) < m := by omega
          have m5 : decide ((r.length : Int) < m) = false := by simpa using m1
          have m6 : decide ((0 : Int) < m) = false := by simpa using m4
          have hk : 0 ≤ r.length := by omega
          have HFR : Hid (frN m r.length = 0) := by show _ = _; unfold frN; split <;> omega
          have HCT := Lib.hid (fun (a2 : Option Addr) (w2 : World) (hs : Sl w2 A w.heap.size a2 r.length r) (hz : w.heap.size ≤ w2.heap.size) => clone_take a2 r.length r (0) _ ((hs.lowput (Below.refl _ _) (.slice a2 r.length r.length) 2).more (by simpa using hz) (Nat.le_refl _)) hk)
          have HKL := Lib.hid hk
          have HFX : Hid (frL b t l x m = r.take (0)) := HFL.out.trans (by rw [HFR.out])
          clear hk HFR
          go_enter Try.func13, Try.ntmps13
          go_wp2_with (go_at_call 22; go_loud ((with_reducible refine HC.out.mono ?_); rintro e w1 ⟨rfl, hb1⟩; have hz1 := hb1.size; have d0 := hb1.cell (p := ⟨w.heap.size, 0, none⟩) (by simp); have d1 := hb1.cell (p := ⟨w.heap.size, 1, none⟩) (by simp); have d2 := hb1.cell (p := ⟨w.heap.size, 2, none⟩) (by simp); simp [go_sem] at d0 d1 d2; have HB1 := Lib.hid (HB.out.trans (hb1.mono HB.out.size)); have HL1 := Lib.hid hb1; have f2 := hb1.frozen (p := ⟨w.heap.size, 2, none⟩) (by simp); simp [go_sem] at f2; clear hb1))
          go_wp2_with (go_at_call 35; go_loud ((with_reducible refine (HBH.out _ HL1.out).mono ?_); rintro e w2 ⟨⟨a2, rfl, hs2⟩, hb2⟩; have hz2 := hb2.size; have d0 := (hb2.cell (p := ⟨w.heap.size, 0, none⟩) (by show w.heap.size < _; simp at hz1; omega)).trans d0; have d1 := (hb2.cell (p := ⟨w.heap.size, 1, none⟩) (by show w.heap.size < _; simp at hz1; omega)).trans d1; have d2 := (hb2.cell (p := ⟨w.heap.size, 2, none⟩) (by show w.heap.size < _; simp at hz1; omega)).trans d2; have g2 := (hb2.frozen (p := ⟨w.heap.size, 2, none⟩) (by show w.heap.size < _; simp at hz1; omega)).trans f2; have HB2 := Lib.hid (HB1.out.trans (hb2.mono HB1.out.size)); have HS2 := Lib.hid hs2; have HZ2 := Lib.hid hz2; clear hb2 hs2))
          go_wp2_with (go_at_call 36; go_loud ((with_reducible refine (HCT.out _ _ HS2.out HB2.out.size).mono ?_); rintro e w3 ⟨⟨a3, c3, rfl, ho3⟩, hb3⟩; have HO3 := Lib.hid ho3; have HB3 := Lib.hid ((HB2.out.setCell (p := ⟨w.heap.size, 2, none⟩) (Nat.le_refl _) (.slice a2 r.length r.length)).trans (hb3.mono (by have := HB2.out.size; simpa using this))); clear hb3 ho3))
          go_wp2
          go_ret2
          exact ⟨FromIs.some HFX.out HKL.out HFE.out HO3.out (by have := HB2.out.size; simpa using this), HB3.out⟩
end Lo
end Go.Proofs.Ytjalmciaaenmjaa
