/-
  MEMORY OF THE CALL's OWN: rows of numbers, rows of entries; slices.Clone; log.clone, own.
-/
import Derived.Test.YtjalmciaaenmjaaLogEnd
import Derived.Laws.ResultCell
namespace Go.Proofs.Ytjalmciaaenmjaa
open Go.RowKit Go.Lib
namespace Lo
/-- No cell of u's block is frozen. -/
def Thaw (w : World) (u : Value) : Prop := ∀ b off n c, u = .slice (some ⟨b, off, none⟩) n c → 0 < n → ∀ j, w.frozen? ⟨b, j, none⟩ = false
theorem info_int : (Try.prog.info? 3).map (fun i => (i.zero, i.size, i.bytes)) = some (some (.int .i64 0), 1, 8) := by kernel_rfl
theorem info_entry : (Try.prog.info? 53).map (fun i => (i.zero, i.size, i.bytes)) = some (some (.agg #[.int .u64 0, .int .u64 0, .int .u8 0, .string ByteArray.empty, .slice none 0 0]), 5, 64) := by kernel_rfl
theorem own_ints {w : World} {base : Nat} {v : Value} {ks : List Int} (h : w.ownsRow base 3 1 v ks.length (ks.map fun k => .int .i64 k)) (hl : ks.length ≤ 17592186044416) (hr : ∀ x ∈ ks, -9223372036854775808 ≤ x ∧ x ≤ 9223372036854775807) :
    ∃ a c, v = .slice a ks.length c ∧ IntsR w base w.heap.size (.slice a ks.length c) ks ∧ Thaw w (.slice a ks.length c) := by
  rcases h.2 with ⟨rfl, h0⟩ | ⟨g, cap, cur, rfl, hb, hg, h1, h2, h3, h4⟩
  · have : ks = [] := List.eq_nil_of_length_eq_zero h0
    subst this
    exact ⟨none, 0, rfl, ⟨none, 0, rfl, by simp, by simp, by simp⟩, fun b off n c e => by simp at e⟩
  · refine ⟨_, _, rfl, ⟨_, _, rfl, hl, hr, fun hp => ⟨g, 0, rfl, hb, (Array.getElem?_eq_some_iff.1 hg).1, fun i hi => ?_⟩⟩, fun b off n c e _ j => ?_⟩
    · rw [Nat.zero_add]
      have hu : (ks.map fun k => Value.int .i64 k)[i]? = some (.int .i64 ks[i]) := by rw [List.getElem?_map, List.getElem?_eq_getElem hi]; rfl
      rw [cell_of_row w g i cur _ (0, 0) hg]
      rw [← h4, List.getElem?_take, if_pos (by omega)] at hu
      simpa using hu
    · simp only [Value.slice.injEq, Option.some.injEq, Addr.mk.injEq] at e
      obtain ⟨⟨rfl, -, -⟩, -, -⟩ := e
      exact frozen_of_row w g j cur _ hg
theorem ints_cells {w : World} {A B : Nat} {a : Option Addr} {c : Nat} {ks : List Int} (h : IntsR w A B (.slice a ks.length c) ks) (ad : Addr) (ha : a = some ad) : ∀ j u, (ks.map fun k => Value.int .i64 k)[j]? = some u → w.cell? (ad.add j) = some u := by
  intro j u hu
  have hj : j < ks.length := by
    have := (List.getElem?_eq_some_iff.1 hu).1
    simpa using this
  obtain ⟨a', c', he, -, -, hc⟩ := h
  obtain ⟨b, off, rfl, -, -, hcc⟩ := hc (by omega)
  simp only [Value.slice.injEq] at he
  rw [ha] at he
  have he1 := Option.some.inj he.1
  subst he1
  rw [Addr.add_lit]
  rw [List.getElem?_map, List.getElem?_eq_getElem hj] at hu
  cases hu
  exact hcc j hj
theorem map_one (ks : List Int) : ∀ u ∈ ks.map (fun k => Value.int .i64 k), u.oneCell' = true := by
  intro u hu
  obtain ⟨k, -, rfl⟩ := List.mem_map.1 hu
  rfl
set_option maxHeartbeats 1000000 in
theorem clone_ints (v : Value) (ks : List Int) (w : World) {A : Nat} (hv : IntsR w A w.heap.size v ks) :
    Calls Try.prog 40 #[v] w fun e w' => (∃ a c, e = .returned (.slice a ks.length c) ∧ IntsR w' w.heap.size w'.heap.size (.slice a ks.length c) ks ∧ Thaw w' (.slice a ks.length c)) ∧ Below w.heap.size w w' := by
  have q22 : ∀ (w : World) (a : Option Addr) (n c n' c' : Nat), (binOp .eql 26 (.slice a n c) (.slice none n' c')).run Try.prog w = .ok (.bool a.isNone) w := fun w a n c n' c' => Lib.run_eql_slice_nil w _ _ a n c n' c' Try.underlying26
  have hv2 := hv
  obtain ⟨a, c, rfl, hl, hr, hc⟩ := hv
  cases a with
  | none =>
    have h0 : ks = [] := by
      by_cases hn : 0 < ks.length
      · obtain ⟨b, off, he, _⟩ := hc hn; cases he
      · exact List.eq_nil_of_length_eq_zero (by omega)
    subst h0
    clear hc hr hv2 hl
    go_enter Try.func40, Try.ntmps40
    go_wp2
    go_ret
    exact ⟨⟨none, 0, rfl, ⟨none, 0, rfl, by simp, by simp, by simp⟩, fun b off n c e => by simp at e⟩, Below.refl _ _⟩
  | some ad =>
    obtain ⟨i0, hi, hz0, hz1, hz2⟩ := info_parts info_int
    have A := Lib.hid (ints_cells hv2 ad rfl)
    have hmx : ks.length ≤ maxLen := by simp only [maxLen]; omega
    have hl3 : (ks.map fun k => Value.int .i64 k).length = ks.length * 1 := by simp
    have h1 := map_one ks
    have HRG := Lib.hid hr
    have HLL := Lib.hid hl
    clear hc hv2 hr
    have H3 := Lib.hid hl3
    have H1 := Lib.hid h1
    clear hl3 h1
    generalize hx : (ks.map fun k => Value.int .i64 k) = xs at A H3 H1
    have HX := Lib.hid hx
    clear hx
    go_enter Try.func40, Try.ntmps40
    go_wp2_with (at_builtin; refine wpList_append_own _ rfl _ _ 26 rfl w.heap.size 3 i0 _ 1 8 Try.underlying26 hi hz0 hz1 hz2 rfl (by omega) _ _ _ rfl (World.ownsRow_made w #[] 0 (Nat.le_refl _) (Nat.zero_le _) (by simp)) ad ks.length c xs rfl H3.out (fun j u hj => Lib.cell?_alloc_some _ (A.out j u hj)) H1.out (by rw [Nat.zero_add]; exact hmx) (by rw [Nat.zero_add]; have := HLL.out; omega) (by simp) ?_; intro v' w1 hown hgrow hnil)
    go_ret
    have hown' : w1.ownsRow w.heap.size 3 1 v' ks.length (ks.map fun k => Value.int .i64 k) := by rw [HX.out]; simpa using hown
    obtain ⟨a1, c1, rfl, hI, hT⟩ := own_ints hown' HLL.out HRG.out
    refine ⟨⟨a1, c1, rfl, hI, hT⟩, ?_⟩
    exact ((Below.refl _ w).alloc (Nat.le_refl _) _).grown hgrow (by simp) (fun k hk => Nat.le_of_eq (Option.some.inj hk))
/-- An entry as cells. -/
def encE (e : En) (u : Value) : List Value := [.int .u64 (e.i : Nat), .int .u64 (e.t : Nat), .int .u8 (e.k : Nat), .string e.d, u]
def flatE : List (En × Value) → List Value
  | [] => []
  | p :: r => encE p.1 p.2 ++ flatE r
theorem flatE_len (ps : List (En × Value)) : (flatE ps).length = ps.length * 5 := by
  induction ps with
  | nil => rfl
  | cons f r ih => simp [flatE, encE, ih]; omega
theorem flatE_app (a b : List (En × Value)) : flatE (a ++ b) = flatE a ++ flatE b := by
  induction a with
  | nil => rfl
  | cons f r ih => simp [flatE, ih]
theorem flatE_at (ps : List (En × Value)) : ∀ i (h : i < ps.length), (flatE ps)[i * 5]? = some (.int .u64 (ps[i].1.i : Nat)) ∧ (flatE ps)[i * 5 + 1]? = some (.int .u64 (ps[i].1.t : Nat)) ∧ (flatE ps)[i * 5 + 2]? = some (.int .u8 (ps[i].1.k : Nat)) ∧ (flatE ps)[i * 5 + 3]? = some (.string ps[i].1.d) ∧ (flatE ps)[i * 5 + 4]? = some ps[i].2 := by
  induction ps with
  | nil => intro i h; simp at h
  | cons f r ih =>
    intro i h
    cases i with
    | zero => simp [flatE, encE]
    | succ i =>
      have := ih i (by simpa using h)
      have e1 : (i + 1) * 5 = i * 5 + 5 := by omega
      simp only [flatE, encE, e1, List.cons_append, List.nil_append, List.getElem?_cons_succ, List.getElem_cons_succ]
      exact this
def OneC (u : Value) : Prop := u.oneCell' = true
theorem flatE_one (ps : List (En × Value)) (hp : ∀ p ∈ ps, OneC p.2) : ∀ u ∈ flatE ps, u.oneCell' = true := by
  induction ps with
  | nil => simp [flatE]
  | cons f r ih =>
    intro u hu
    simp only [flatE, encE, List.mem_append, List.mem_cons, List.not_mem_nil, or_false] at hu
    rcases hu with (rfl | rfl | rfl | rfl | rfl) | hu
    · rfl
    · rfl
    · rfl
    · rfl
    · exact hp f (by simp)
    · exact ih (fun p hp' => hp p (by simp [hp'])) u hu
theorem list_of {α : Type} (R : Nat → α → Prop) : ∀ n, (∀ i, i < n → ∃ f, R i f) → ∃ l : List α, l.length = n ∧ ∀ i (h : i < l.length), R i l[i]
  | 0, _ => ⟨[], rfl, fun i h => absurd h (Nat.not_lt_zero _)⟩
  | n + 1, h => by
    obtain ⟨l, hl, hr⟩ := list_of R n (fun i hi => h i (by omega))
    obtain ⟨f, hf⟩ := h n (by omega)
    refine ⟨l ++ [f], by simp [hl], fun i hi => ?_⟩
    by_cases hin : i < l.length
    · rw [List.getElem_append_left hin]; exact hr i hin
    · have : i = n := by simp at hi; omega
      subst this
      rw [List.getElem_append_right (by omega)]
      simpa [hl] using hf
/-- The entries of a slice with their members' values. -/
structure Prs (w : World) (A B : Nat) (a : Option Addr) (l : List En) (ps : List (En × Value)) : Prop where
  len : ps.length = l.length
  fst : ps.map (·.1) = l
  mem : 0 < l.length → ∃ b off, a = some ⟨b, off, none⟩ ∧ A ≤ b ∧ b < B ∧ ∀ i (h : i < ps.length), EntC w A B b (off + i * 5) ps[i].1 ps[i].2
theorem Prs.of {w : World} {A B : Nat} {a : Option Addr} {l : List En} (h : Mem w A B a l) : ∃ ps, Prs w A B a l ps := by
  by_cases h0 : 0 < l.length
  · obtain ⟨b, off, rfl, hA, hB, hc⟩ := h h0
    obtain ⟨us, hul, hus⟩ := list_of (fun i u => ∀ (h : i < l.length), EntC w A B b (off + i * 5) l[i] u) l.length (fun i hi => (hc i hi).imp fun u hu _ => hu)
    refine ⟨l.zip us, by simp [hul], ?_, fun _ => ⟨b, off, rfl, hA, hB, fun i hi => ?_⟩⟩
    · rw [List.map_fst_zip (by omega)]
    · simp only [List.length_zip] at hi
      rw [List.getElem_zip]
      exact hus i (by omega) (by omega)
  · have : l = [] := List.eq_nil_of_length_eq_zero (by omega)
    subst this
    exact ⟨[], rfl, rfl, fun h => absurd h (by simp)⟩
theorem Prs.cells {w : World} {A B : Nat} {a : Option Addr} {l : List En} {ps : List (En × Value)} (h : Prs w A B a l ps) (ad : Addr) (ha : a = some ad) : ∀ j u, (flatE ps)[j]? = some u → w.cell? (ad.add j) = some u := by
  intro j u hu
  have hj : j < ps.length * 5 := by
    have := (List.getElem?_eq_some_iff.1 hu).1
    rwa [flatE_len] at this
  obtain ⟨b, off, he, _, _, hcc⟩ := h.mem (by have := h.len; omega)
  rw [ha] at he
  cases he
  rw [Addr.add_lit]
  obtain ⟨f0, f1, f2, f3, f4⟩ := flatE_at ps (j / 5) (by omega)
  obtain ⟨c0, c1, c2, c3, c4, -, -, -⟩ := hcc (j / 5) (by omega)
  have hm : j = j / 5 * 5 ∨ j = j / 5 * 5 + 1 ∨ j = j / 5 * 5 + 2 ∨ j = j / 5 * 5 + 3 ∨ j = j / 5 * 5 + 4 := by omega
  rcases hm with h | h | h | h | h
  · rw [h] at hu ⊢; rw [f0] at hu; cases hu; exact c0
  · rw [h] at hu ⊢; rw [f1] at hu; cases hu; exact c1
  · rw [h] at hu ⊢; rw [f2] at hu; cases hu; exact c2
  · rw [h] at hu ⊢; rw [f3] at hu; cases hu; exact c3
  · rw [h] at hu ⊢; rw [f4] at hu; cases hu; exact c4
theorem Prs.one {w : World} {A B : Nat} {a : Option Addr} {l : List En} {ps : List (En × Value)} (h : Prs w A B a l ps) : ∀ p ∈ ps, OneC p.2 := by
  intro p hp
  obtain ⟨i, hi, rfl⟩ := List.getElem_of_mem hp
  obtain ⟨b, off, -, -, -, hc⟩ := h.mem (by have := h.len; omega)
  obtain ⟨a, c, e, -⟩ := (hc i hi).iv
  unfold OneC
  rw [e]; rfl
/-- A row g of the call's own that holds entries whose members lie in blocks from A on, below B. -/
def RowE (w : World) (base A B : Nat) (a : Option Addr) (l : List En) : Prop :=
  0 < l.length → ∃ g, a = some ⟨g, 0, none⟩ ∧ base ≤ g ∧ g < w.heap.size ∧ (∀ j, w.frozen? ⟨g, j, none⟩ = false) ∧ ∀ i (h : i < l.length), ∃ u, EntC w A B g (i * 5) l[i] u
theorem own_row {w0 w : World} {A B base : Nat} {a : Option Addr} {l : List En} {ps : List (En × Value)} (hp : Prs w0 A B a l ps) {v : Value} (h : w.ownsRow base 53 5 v l.length (flatE ps)) (hb : Below B w0 w) :
    ∃ a' c', v = .slice a' l.length c' ∧ l.length ≤ c' ∧ (a' = none → c' = 0) ∧ RowE w base A B a' l := by
  rcases h.2 with ⟨rfl, h0⟩ | ⟨g, cap, cur, rfl, hbg, hg, h1, h2, h3, h4⟩
  · rw [h0]
    exact ⟨none, 0, rfl, Nat.le_refl _, fun _ => rfl, fun hp => by omega⟩
  · refine ⟨_, _, rfl, h1, (fun h => by cases h), fun hl => ⟨g, rfl, hbg, (Array.getElem?_eq_some_iff.1 hg).1, fun j => frozen_of_row w g j cur _ hg, fun i hi => ?_⟩⟩
    have hpl := hp.len
    have hi2 : i < ps.length := by omega
    obtain ⟨b, off, -, -, -, hc⟩ := hp.mem hl
    have hfst : ps[i].1 = l[i] := by
      have := congrArg (fun x : List En => x[i]?) hp.fst
      simp only [List.getElem?_map, List.getElem?_eq_getElem hi2, List.getElem?_eq_getElem hi, Option.map_some] at this
      exact Option.some.inj this
    obtain ⟨f0, f1, f2, f3, f4⟩ := flatE_at ps i hi2
    have key : ∀ j u, j < l.length * 5 → (flatE ps)[j]? = some u → w.cell? ⟨g, j, none⟩ = some u := by
      intro j u hj hu
      rw [cell_of_row w g j cur _ (0, 0) hg]
      rw [← h4, List.getElem?_take, if_pos hj] at hu
      simpa using hu
    have hE := hc i hi2
    rw [← hfst]
    exact ⟨ps[i].2, key _ _ (by omega) f0, key _ _ (by omega) f1, key _ _ (by omega) f2, key _ _ (by omega) f3, key _ _ (by omega) f4, hE.iv.keep hb, hE.i64, hE.t64⟩
set_option maxHeartbeats 1000000 in
theorem clone_ents (a : Option Addr) (c : Nat) (l : List En) (w : World) {A : Nat} (h : Sl w A w.heap.size a c l) :
    Calls Try.prog 48 #[.slice a l.length c] w fun e w' => (∃ a' c', e = .returned (.slice a' l.length c') ∧ l.length ≤ c' ∧ (a' = none → c' = 0) ∧ RowE w' w.heap.size A w.heap.size a' l) ∧ Below w.heap.size w w' := by
  have q22 : ∀ (w : World) (a : Option Addr) (n c n' c' : Nat), (binOp .eql 23 (.slice a n c) (.slice none n' c')).run Try.prog w = .ok (.bool a.isNone) w := fun w a n c n' c' => Lib.run_eql_slice_nil w _ _ a n c n' c' Try.underlying23
  cases a with
  | none =>
    have h0 : l = [] := List.eq_nil_of_length_eq_zero (by have := h.nil rfl; have := h.cap; omega)
    subst h0
    clear h
    rw [List.length_nil]
    go_enter Try.func48, Try.ntmps48
    go_wp2
    go_ret
    exact ⟨⟨none, 0, rfl, Nat.le_refl _, fun _ => rfl, fun h => absurd h (by simp)⟩, Below.refl _ _⟩
  | some ad =>
    obtain ⟨i0, hi, hz0, hz1, hz2⟩ := info_parts info_entry
    obtain ⟨ps, hps⟩ := Prs.of h.mem
    have CC := Lib.hid (hps.cells ad rfl)
    have hln := h.len
    have hmx : l.length ≤ maxLen := by simp only [maxLen]; omega
    have hl3 : (flatE ps).length = l.length * 5 := by rw [flatE_len, hps.len]
    have h1 := flatE_one ps hps.one
    have HPS := Lib.hid hps
    have HLL := Lib.hid hln
    clear hps h
    have H3 := Lib.hid hl3
    have H1 := Lib.hid h1
    clear hl3 h1
    generalize hx : flatE ps = xs at CC H3 H1
    have HX := Lib.hid hx
    clear hx
    go_enter Try.func48, Try.ntmps48
    go_wp2_with (at_builtin; refine wpList_append_own _ rfl _ _ 23 rfl w.heap.size 53 i0 _ 5 64 Try.underlying23 hi hz0 hz1 hz2 rfl (by omega) _ _ _ rfl (World.ownsRow_made w #[] 0 (Nat.le_refl _) (Nat.zero_le _) (by simp)) ad l.length c xs rfl H3.out (fun j u hj => Lib.cell?_alloc_some _ (CC.out j u hj)) H1.out (by rw [Nat.zero_add]; exact hmx) (by rw [Nat.zero_add]; have := HLL.out; omega) (by simp) ?_; intro v' w1 hown hgrow hnil)
    go_ret
    have hown' : w1.ownsRow w.heap.size 53 5 v' l.length (flatE ps) := by rw [HX.out]; simpa using hown
    have hbel : Below w.heap.size w w1 := ((Below.refl _ w).alloc (Nat.le_refl _) _).grown hgrow (by simp) (fun k hk => Nat.le_of_eq (Option.some.inj hk))
    obtain ⟨a1, c1, rfl, r1, r2, r3⟩ := own_row HPS.out hown' hbel
    exact ⟨⟨a1, c1, rfl, r1, r2, r3⟩, hbel⟩
end Lo
end Go.Proofs.Ytjalmciaaenmjaa
