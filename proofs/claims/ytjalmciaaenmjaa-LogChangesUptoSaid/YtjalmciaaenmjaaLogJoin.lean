/-
  ENTRIES BEHIND AN ENTRY OF A LOG: log.join.
-/
import Derived.Test.YtjalmciaaenmjaaLogPart
namespace Go.Proofs.Ytjalmciaaenmjaa
open Go.RowKit Go.Lib
namespace Lo
/-- What the members' values of a list are. -/
def OkP (w : World) (A B : Nat) (ps : List (En × Value)) : Prop := ∀ p ∈ ps, IntsR w A B p.2 p.1.ks ∧ Lt64 p.1.i ∧ Lt64 p.1.t
theorem Prs.okp {w w' : World} {A B : Nat} {a : Option Addr} {l : List En} {ps : List (En × Value)} (h : Prs w A B a l ps) (hb : Below B w w') : OkP w' A B ps := by
  intro p hp
  obtain ⟨i, hi, rfl⟩ := List.getElem_of_mem hp
  obtain ⟨b, off, -, -, -, hc⟩ := h.mem (by have := h.len; omega)
  exact ⟨(hc i hi).iv.keep hb, (hc i hi).i64, (hc i hi).t64⟩
theorem OkP.app {w : World} {A B A' B' A2 B2 : Nat} {p q : List (En × Value)} (h1 : OkP w A B p) (h2 : OkP w A' B' q) (e1 : A2 ≤ A) (e2 : A2 ≤ A') (e3 : B ≤ B2) (e4 : B' ≤ B2) : OkP w A2 B2 (p ++ q) := by
  intro x hx
  rcases List.mem_append.1 hx with h | h
  · exact ⟨(h1 x h).1.more e3 e1, (h1 x h).2⟩
  · exact ⟨(h2 x h).1.more e4 e2, (h2 x h).2⟩
theorem own_rowp {w : World} {A B base : Nat} {l : List En} {ps : List (En × Value)} (hf : ps.map (·.1) = l) (hp : OkP w A B ps) {v : Value} (h : w.ownsRow base 53 5 v l.length (flatE ps)) :
    ∃ a' c', v = .slice a' l.length c' ∧ l.length ≤ c' ∧ (a' = none → c' = 0) ∧ RowE w base A B a' l := by
  rcases h.2 with ⟨rfl, h0⟩ | ⟨g, cap, cur, rfl, hbg, hg, h1, h2, h3, h4⟩
  · rw [h0]
    exact ⟨none, 0, rfl, Nat.le_refl _, fun _ => rfl, fun hp => by omega⟩
  · refine ⟨_, _, rfl, h1, (fun h => by cases h), fun hl => ⟨g, rfl, hbg, (Array.getElem?_eq_some_iff.1 hg).1, fun j => frozen_of_row w g j cur _ hg, fun i hi => ?_⟩⟩
    have hpl : ps.length = l.length := by rw [← hf, List.length_map]
    have hi2 : i < ps.length := by omega
    have hfst : ps[i].1 = l[i] := by
      have := congrArg (fun x : List En => x[i]?) hf
      simp only [List.getElem?_map, List.getElem?_eq_getElem hi2, List.getElem?_eq_getElem hi, Option.map_some] at this
      exact Option.some.inj this
    obtain ⟨f0, f1, f2, f3, f4⟩ := flatE_at ps i hi2
    have key : ∀ j u, j < l.length * 5 → (flatE ps)[j]? = some u → w.cell? ⟨g, j, none⟩ = some u := by
      intro j u hj hu
      rw [cell_of_row w g j cur _ (0, 0) hg]
      rw [← h4, List.getElem?_take, if_pos hj] at hu
      simpa using hu
    obtain ⟨r1, r2, r3⟩ := hp ps[i] (List.getElem_mem hi2)
    rw [← hfst]
    exact ⟨ps[i].2, key _ _ (by omega) f0, key _ _ (by omega) f1, key _ _ (by omega) f2, key _ _ (by omega) f3, key _ _ (by omega) f4, r1, r2, r3⟩
theorem RowE.put {w : World} {base A B : Nat} {a : Option Addr} {l : List En} (h : RowE w base A B a l) {p : Nat} (h1 : B ≤ p) (h2 : p < base) (j : Nat) (v : Value) : RowE (w.setCell ⟨p, j, none⟩ v) base A B a l := fun hp => by
  obtain ⟨g, rfl, hbg, hlt, hf, hc⟩ := h hp
  exact ⟨g, rfl, hbg, by simpa using hlt, fun j' => (World.frozen?_setCell _ _ _ _).trans (hf j'), fun i hi => (hc i hi).imp fun u hu => hu.put (.inr h1) j (fun e => by omega) v⟩
theorem RowE.sl {w : World} {base A B : Nat} {a : Option Addr} {l : List En} (h : RowE w base A B a l) {c : Nat} (h1 : B ≤ w.heap.size) (h2 : l.length ≤ c) (h3 : a = none → c = 0) (h4 : l.length ≤ 2199023255551) : Sl w 0 w.heap.size a c l := by
  refine ⟨fun hp => ?_, h2, h3, h4⟩
  obtain ⟨g, rfl, hbg, hlt, hf, hc⟩ := h hp
  refine ⟨g, 0, rfl, Nat.zero_le _, hlt, fun i hi => ?_⟩
  rw [Nat.zero_add]
  exact (hc i hi).imp fun u hu => hu.more h1 (Nat.zero_le _)
/-- The cells of two slices, one behind the other. -/
theorem join_row {w : World} {A B A' : Nat} {a a2 : Option Addr} {c c2 n : Nat} {l r l' : List En} (h1 : Sl w A B a c l) (h2 : Sl w A' B a2 c2 r) (hl : l ++ r = l') (hn : l'.length = n) :
    ∃ olds news, (∀ ad, a = some ad → ∀ j u, olds[j]? = some u → w.cell? (ad.add j) = some u) ∧ (∀ ad, a2 = some ad → ∀ j u, news[j]? = some u → w.cell? (ad.add j) = some u) ∧ (∀ u ∈ news, u.oneCell' = true) ∧ olds.length = l.length * 5 ∧ news.length = r.length * 5 ∧
      ∀ (base : Nat) (v : Value) (w' : World), Below B w w' → w'.ownsRow base 53 5 v n (olds ++ news) → ∃ a' c', v = .slice a' n c' ∧ n ≤ c' ∧ (a' = none → c' = 0) ∧ RowE w' base 0 B a' l' := by
  subst hn
  obtain ⟨p1, hp1⟩ := Prs.of h1.mem
  obtain ⟨p2, hp2⟩ := Prs.of h2.mem
  refine ⟨flatE p1, flatE p2, fun ad ha => hp1.cells ad ha, fun ad ha => hp2.cells ad ha, flatE_one p2 hp2.one, by rw [flatE_len, hp1.len], by rw [flatE_len, hp2.len], fun base v w' hb hown => ?_⟩
  refine own_rowp (ps := p1 ++ p2) ?_ ((hp1.okp hb).app (hp2.okp hb) (Nat.zero_le _) (Nat.zero_le _) (Nat.le_refl _) (Nat.le_refl _)) ?_
  · rw [List.map_append, hp1.fst, hp2.fst, hl]
  · rw [flatE_app]; exact hown
/-- A log, an Index and an error as an answer, the log's entries in memory of its own. -/
def JIs (w : World) (b t : Nat) (l : List En) (f r : Nat) (e : Ending) (w' : World) : Prop :=
  ∃ a c, e = .returned (.tuple #[.agg #[.int .u64 (b : Nat), .int .u64 (t : Nat), .slice a l.length c], .int .u64 (f : Nat), .int .i64 (r : Nat)]) ∧ OwnS w' w.heap.size a c l
def joinB (b t : Nat) (l s : List En) : Bool := match pt b t l s with | [] => true | e :: r => okB b t (l.take (mny b l.length (e.i - 1)) ++ e :: r)
def joinL (b t : Nat) (l s : List En) : List En := match pt b t l s with | [] => l | e :: r => l.take (mny b l.length (e.i - 1)) ++ e :: r
def joinF (b t : Nat) (l s : List En) : Nat := match pt b t l s with | [] => 0 | e :: _ => e.i
/-- What join answers. -/
def JoinR (w : World) (b t : Nat) (l s : List En) (e : Ending) (w' : World) : Prop :=
  if joinB b t l s = true then JIs w b t (joinL b t l s) (joinF b t l s) 0 e w' else JIs w 0 0 [] 0 17 e w'
theorem JoinR.same {w w' : World} {b t : Nat} {l s : List En} {a : Option Addr} {c A : Nat} (hp : pt b t l s = []) (h : OwnS w' A a c l) (hA : w.heap.size ≤ A) :
    JoinR w b t l s (.returned (.tuple #[.agg #[.int .u64 (b : Nat), .int .u64 (t : Nat), .slice a l.length c], .int .u64 0, .int .i64 0])) w' := by
  unfold JoinR joinB joinL joinF
  rw [hp]
  exact ⟨a, c, rfl, h.less hA⟩
theorem JoinR.new {w w' : World} {b t n : Nat} {l s r l' : List En} {e : En} {a : Option Addr} {c A : Nat} (hp : pt b t l s = e :: r) (hl : l.take (mny b l.length (e.i - 1)) ++ e :: r = l') (hn : l'.length = n) (hk : okB b t l' = true) (h : OwnS w' A a c l') (hA : w.heap.size ≤ A) {i : Nat} (hi : e.i = i) :
    JoinR w b t l s (.returned (.tuple #[.agg #[.int .u64 (b : Nat), .int .u64 (t : Nat), .slice a n c], .int .u64 (i : Nat), .int .i64 0])) w' := by
  subst hl hn hi
  unfold JoinR joinB joinL joinF
  rw [hp]
  simp only [hk, if_true]
  exact ⟨a, c, rfl, h.less hA⟩
theorem JoinR.bad {w w' : World} {b t : Nat} {l s r l' : List En} {e : En} (hp : pt b t l s = e :: r) (hl : l.take (mny b l.length (e.i - 1)) ++ e :: r = l') (hk : okB b t l' = false) :
    JoinR w b t l s (.returned (.tuple #[.agg #[.int .u64 0, .int .u64 0, .slice none 0 0], .int .u64 0, .int .i64 17])) w' := by
  subst hl
  unfold JoinR joinB
  rw [hp]
  simp only [hk]
  exact ⟨none, 0, rfl, own_nil _ _⟩
set_option maxHeartbeats 16000000 in
theorem join_of (b t : Nat) (a : Option Addr) (c : Nat) (l : List En) (a2 : Option Addr) (c2 : Nat) (s : List En) (w : World) {A A2 : Nat} (h : Sl w A w.heap.size a c l) (h2 : Sl w A2 w.heap.size a2 c2 s) (he : eI b l = b + l.length) (hb : Lt64 b) (hs : l.length + s.length ≤ 2199023255551) (hr : ∀ e ∈ s, e.i ≠ 0) :
    Calls Try.prog 45 #[.agg #[.int .u64 (b : Nat), .int .u64 (t : Nat), .slice a l.length c], .slice a2 s.length c2] w fun e w' => JoinR w b t l s e w' ∧ Below w.heap.size w w' := by
  have hB : Below w.heap.size w ((w.alloc (.cells #[.int .u64 (b : Nat), .int .u64 (t : Nat), .slice a l.length c] 25)).alloc (.cells #[.int .u64 0, .int .u64 0, .slice none 0 0] 25)) := ((Below.refl _ _).alloc (Nat.le_refl _) _).alloc (by simp) _
  have HB0 := Lib.hid hB
  have C0 := Lib.hid ((Bx3.made w (.int .u64 (b : Nat)) (.int .u64 (t : Nat)) (.slice a l.length c) 25).al (.cells #[.int .u64 0, .int .u64 0, .slice none 0 0] 25))
  have R0 := Lib.hid (show Bx3 ((w.alloc (.cells #[.int .u64 (b : Nat), .int .u64 (t : Nat), .slice a l.length c] 25)).alloc (.cells #[.int .u64 0, .int .u64 0, .slice none 0 0] 25)) (w.heap.size + 1) (.int .u64 0) (.int .u64 0) (.slice none 0 0) by have h9 := Bx3.made (w.alloc (.cells #[.int .u64 (b : Nat), .int .u64 (t : Nat), .slice a l.length c] 25)) (.int .u64 0) (.int .u64 0) (.slice none 0 0) 25; rw [World.size_alloc] at h9; exact h9)
  have HPT := Lib.hid (parting_of b t a c l a2 c2 s _ (h.keep hB) (h2.keep hB) hB.size he)
  have HS := Lib.hid (h.keep hB)
  have HS2 := Lib.hid h2
  obtain ⟨kp, hkp, hpk⟩ := pt_suffix b t l s
  clear hB h
  cases hpt : pt b t l s with
  | nil =>
    have HO := Lib.hid (fun w1 (hb1 : Below w.heap.size ((w.alloc (.cells #[.int .u64 (b : Nat), .int .u64 (t : Nat), .slice a l.length c] 25)).alloc (.cells #[.int .u64 0, .int .u64 0, .slice none 0 0] 25)) w1) (hz : w.heap.size ≤ w1.heap.size) => own_of b t a c l w1 ((HS.out.keep hb1).more hz (Nat.le_refl _)))
    have HP := Lib.hid (fun w' a3 c3 A h hA => JoinR.same (w := w) (w' := w') (a := a3) (c := c3) (A := A) hpt h hA)
    rw [hpt] at HPT
    simp only [List.length_nil] at HPT
    clear hpt hpk hr hs hb he HS HS2
    go_enter Try.func45, Try.ntmps45
    go_wp2_with (go_at_call 51; go_loud ((with_reducible refine HPT.out.mono ?_); rintro e w1 ⟨⟨ar, cr, rfl, hs1⟩, hb⟩; have HB1 := Lib.hid (HB0.out.trans (hb.mono HB0.out.size)); have HL1 := Lib.hid hb; have C1 := Lib.hid (C0.out.below hb); have R1 := Lib.hid (R0.out.below hb); obtain ⟨d10, d11, d12⟩ := C1.out.cells; obtain ⟨f10, f11, f12⟩ := C1.out.fz; obtain ⟨e10, e11, e12⟩ := R1.out.cells; obtain ⟨g10, g11, g12⟩ := R1.out.fz; clear hs1; clear hb))
    go_wp2_with (go_at_call 46; go_loud ((with_reducible refine (HO.out _ (HL1.out.mono HB0.out.size) HB1.out.size).mono ?_); rintro e w3 ⟨⟨a3, c3, rfl, ho⟩, hb⟩; have HB3 := Lib.hid (HB1.out.trans (hb.mono HB1.out.size)); have HL3 := Lib.hid hb; have C3 := Lib.hid (C1.out.below hb); have R3 := Lib.hid (R1.out.below hb); obtain ⟨d30, d31, d32⟩ := C3.out.cells; obtain ⟨f30, f31, f32⟩ := C3.out.fz; obtain ⟨e30, e31, e32⟩ := R3.out.cells; obtain ⟨g30, g31, g32⟩ := R3.out.fz; have HO3 := Lib.hid ho; clear ho; clear hb))
    go_wp2
    refine bodyPost_log3 rfl (w.heap.size + 1) b t (.slice a3 l.length c3) rfl rfl ?_ ?_
    case refine_1 => exact ((R3.out.set0 _).set1 _).set2 _
    case refine_2 => exact ⟨HP.out _ _ _ _ (((HO3.out.put (p := w.heap.size + 1) (by have := R1.out.lt; omega) 0 _).put (p := w.heap.size + 1) (by have := R1.out.lt; omega) 1 _).put (p := w.heap.size + 1) (by have := R1.out.lt; omega) 2 _) HB1.out.size, ((HB3.out.setCell (by exact Nat.le_succ _) _).setCell (by exact Nat.le_succ _) _).setCell (by exact Nat.le_succ _) _⟩
  | cons e1 r1 =>
    have hne : e1.i ≠ 0 := hr e1 (List.mem_of_mem_drop (by rw [← hpk, hpt]; exact List.mem_cons_self))
    have hrl : (e1 :: r1).length ≤ s.length := by rw [← hpt, hpk, List.length_drop]; omega
    rw [hpt] at HPT
    have HT2 := Lib.hid (Sl.take HS.out (mny b l.length (e1.i - 1)))
    obtain ⟨l', hl'⟩ : ∃ l', l.take (mny b l.length (e1.i - 1)) ++ e1 :: r1 = l' := ⟨_, rfl⟩
    have hq := mny_le b l.length (e1.i - 1)
    have hlq : (l.take (mny b l.length (e1.i - 1))).length = mny b l.length (e1.i - 1) := by rw [List.length_take]; omega
    have hll : l'.length = mny b l.length (e1.i - 1) + (e1 :: r1).length := by rw [← hl', List.length_append, hlq]
    have hln : l'.length ≤ 2199023255551 := by omega
    obtain ⟨n, hn⟩ : ∃ n, l'.length = n := ⟨_, rfl⟩
    have HPB := Lib.hid (fun w' => JoinR.bad (w := w) (w' := w') hpt hl')
    have HPN := Lib.hid (fun w' a3 c3 A hk h hA => JoinR.new (w := w) (w' := w') (a := a3) (c := c3) (A := A) hpt hl' hn hk h hA rfl)
    have HA := Lib.hid (fun w1 (hb1 : Below w.heap.size ((w.alloc (.cells #[.int .u64 (b : Nat), .int .u64 (t : Nat), .slice a l.length c] 25)).alloc (.cells #[.int .u64 0, .int .u64 0, .slice none 0 0] 25)) w1) (hz : w.heap.size ≤ w1.heap.size) (h1 : Lt64 (e1.i - 1)) => ahead_of b t (e1.i - 1) a c l w1 ((HS.out.keep hb1).more hz (Nat.le_refl _)) h1 hb)
    have HCK := Lib.hid (fun a4 c4 w4 h => log_check b t a4 c4 l' w4 (A := 0) h)
    have HOW := Lib.hid (fun a4 c4 w4 h => own_of b t a4 c4 l' w4 (A := 0) h)
    have hnil : a = none → mny b l.length (e1.i - 1) = 0 := fun ha => by have := HS.out.nil ha; have := HS.out.cap; omega
    have HNIL := Lib.hid hnil
    have HLL := Lib.hid hl'
    have HLN := Lib.hid hln
    have HN := Lib.hid hn
    have HNE := Lib.hid hne
    have hmn : mny b l.length (e1.i - 1) + (e1 :: r1).length = n := by omega
    obtain ⟨m, hm⟩ : ∃ m, (e1 :: r1).length = m + 1 := ⟨r1.length, rfl⟩
    have HM := Lib.hid hm
    rw [hm] at HPT hmn
    clear hpk hr hs hb he hkp hrl hq hlq hll hnil hpt HS2 h2
    generalize mny b l.length (e1.i - 1) = q at *
    generalize l.take q = lq at *
    rw [hn] at HCK HOW
    obtain ⟨i0, hi, hz0, hz1, hz2⟩ := info_parts info_entry
    have HLQ := Lib.hid (show lq.length = q by have h9 := congrArg List.length hl'; rw [List.length_append, hm, hn] at h9; omega)
    have HM1 := Lib.hid (show q + (m + 1) ≤ maxLen by simp only [maxLen]; omega)
    have HM2 := Lib.hid (show (q + (m + 1)) * 64 ≤ 140737488355328 by omega)
    have HMN := Lib.hid hmn
    clear hl' hn hm hne hln hmn
    go_enter Try.func45, Try.ntmps45
    go_wp2_with (go_at_call 51; go_loud ((with_reducible refine HPT.out.mono ?_); rintro e w1 ⟨⟨ar, cr, rfl, hs1⟩, hb⟩; have HB1 := Lib.hid (HB0.out.trans (hb.mono HB0.out.size)); have HL1 := Lib.hid hb; have C1 := Lib.hid (C0.out.below hb); have R1 := Lib.hid (R0.out.below hb); obtain ⟨d10, d11, d12⟩ := C1.out.cells; obtain ⟨f10, f11, f12⟩ := C1.out.fz; obtain ⟨e10, e11, e12⟩ := R1.out.cells; obtain ⟨g10, g11, g12⟩ := R1.out.fz; obtain ⟨blk, off, rfl, hbA, hbB, u, hc⟩ := hs1.at 0 (by exact Nat.succ_pos _); have HS1 := Lib.hid hs1; rw [Nat.zero_mul, Nat.add_zero] at hc; have k0 := hc.c0; have hi64 := hc.i64; simp only [List.getElem_cons_zero] at k0 hi64; have x1 : IntKind.u64.wrap ((e1.i : Int) - 1) = ((e1.i - 1 : Nat) : Int) := (by have := HNE.out; rw [IntKind.wrap_u64]; unfold Lt64 at hi64; omega); have HX := Lib.hid (show Lt64 (e1.i - 1) by unfold Lt64 at hi64 ⊢; omega); clear hb hs1 hc hi64))
    go_wp2_with (first | (go_at_call 39; go_loud ((with_reducible refine (HA.out _ (HL1.out.mono HB0.out.size) HB1.out.size HX.out).mono ?_); rintro e w2 ⟨rfl, hb⟩; have HB2 := Lib.hid (HB1.out.trans (hb.mono HB1.out.size)); have HL2 := Lib.hid hb; have C2 := Lib.hid (C1.out.below hb); have R2 := Lib.hid (R1.out.below hb); obtain ⟨d20, d21, d22⟩ := C2.out.cells; obtain ⟨f20, f21, f22⟩ := C2.out.fz; obtain ⟨e20, e21, e22⟩ := R2.out.cells; obtain ⟨g20, g21, g22⟩ := R2.out.fz; obtain ⟨olds, news, CO, CN, H1, LO, LN, HROW⟩ := join_row (HT2.out.keep ((HL1.out.mono HB0.out.size).trans (HL2.out.mono HB1.out.size))) (HS1.out.keep (HL2.out.mono HB1.out.size)) HLL.out HN.out; have CO := Lib.hid CO; have CN := Lib.hid CN; have H1 := Lib.hid H1; have LO := Lib.hid LO; have LN := Lib.hid LN; have HROW := Lib.hid HROW; clear hb)) | (at_builtin; refine wpList_append_grows _ rfl _ _ 23 rfl 53 i0 _ 5 64 Try.underlying23 hi hz0 hz1 hz2 rfl (by omega) a q q olds rfl (fun ha => ⟨HNIL.out ha, HNIL.out ha⟩) (by rw [LO.out, HLQ.out]) (fun ad ha => CO.out ad ha) ⟨blk, off, none⟩ (m + 1) cr news rfl (by rw [LN.out, HM.out]) (CN.out _ rfl) H1.out (by omega) HM1.out HM2.out ?_; intro v' w3 hown hgrow; obtain ⟨a4, c4, rfl, r1, r2, r3⟩ := HROW.out _ _ _ ((Below.refl _ _).grown hgrow HB2.out.size (fun k hk => by cases hk)) (HMN.out ▸ hown); have hb3 : Below w2.heap.size w2 w3 := (Below.refl _ _).grown hgrow (Nat.le_refl _) (fun k hk => by cases hk); have HB3 := Lib.hid (HB2.out.trans (hb3.mono HB2.out.size)); have C3 := Lib.hid (C2.out.below hb3); have R3 := Lib.hid (R2.out.below hb3); have hp3 : w.heap.size < w2.heap.size := C2.out.lt; have HZ3 := Lib.hid hp3; have HRE := Lib.hid (RowE.sl (r3.put (p := w.heap.size) (Nat.le_refl _) hp3 2 (.slice a4 n c4)) (by simpa using HB3.out.size) (by rw [HN.out]; exact r1) r2 HLN.out); obtain ⟨d30, d31, d32⟩ := C3.out.cells; obtain ⟨f30, f31, f32⟩ := C3.out.fz; obtain ⟨e30, e31, e32⟩ := R3.out.cells; obtain ⟨g30, g31, g32⟩ := R3.out.fz; clear hown hgrow r1 r2 r3 hb3 hp3))
    have C4 := Lib.hid (C3.out.set2 (.slice a4 n c4))
    have R4 := Lib.hid (R3.out.far (p := w.heap.size) (by omega) 2 (.slice a4 n c4))
    have HB4 := Lib.hid (HB3.out.setCell (p := ⟨w.heap.size, 2, none⟩) (by exact Nat.le_refl _) (.slice a4 n c4))
    have HC4 := Lib.hid (HCK.out a4 c4 _ HRE.out)
    have HO4 := Lib.hid (fun z (hz : Below (w3.setCell ⟨w.heap.size, 2, none⟩ (.slice a4 n c4)).heap.size (w3.setCell ⟨w.heap.size, 2, none⟩ (.slice a4 n c4)) z) => HOW.out a4 c4 z (HRE.out.on hz))
    cases hk : okB b t l'
    · rw [hk] at HC4
      have HP := Lib.hid (fun w' => HPB.out w' hk)
      clear hk
      go_wp2_with (go_at_call 22; go_loud ((with_reducible refine HC4.out.mono ?_); rintro e w5 ⟨rfl, hb⟩; have HB5 := Lib.hid (HB4.out.trans (hb.mono HB4.out.size)); have C5 := Lib.hid (C4.out.below hb); have R5 := Lib.hid (R4.out.below hb); obtain ⟨d50, d51, d52⟩ := C5.out.cells; obtain ⟨f50, f51, f52⟩ := C5.out.fz; obtain ⟨e50, e51, e52⟩ := R5.out.cells; obtain ⟨g50, g51, g52⟩ := R5.out.fz; clear hb))
      go_wp2
      refine bodyPost_log3 rfl (w.heap.size + 1) 0 0 (.slice none 0 0) rfl rfl ?_ ?_
      case refine_1 => exact ((R5.out.set0 _).set1 _).set2 _
      case refine_2 => exact ⟨HP.out _, ((HB5.out.setCell (by exact Nat.le_succ _) _).setCell (by exact Nat.le_succ _) _).setCell (by exact Nat.le_succ _) _⟩
    · rw [hk] at HC4
      have HP := Lib.hid (fun w' a c A h hA => HPN.out w' a c A hk h hA)
      clear hk
      go_wp2_with (go_at_call 22; go_loud ((with_reducible refine HC4.out.mono ?_); rintro e w5 ⟨rfl, hb⟩; have HB5 := Lib.hid (HB4.out.trans (hb.mono HB4.out.size)); have HL5 := Lib.hid hb; have C5 := Lib.hid (C4.out.below hb); have R5 := Lib.hid (R4.out.below hb); obtain ⟨d50, d51, d52⟩ := C5.out.cells; obtain ⟨f50, f51, f52⟩ := C5.out.fz; obtain ⟨e50, e51, e52⟩ := R5.out.cells; obtain ⟨g50, g51, g52⟩ := R5.out.fz; clear hb))
      go_wp2_with (go_at_call 46; go_loud ((with_reducible refine (HO4.out _ HL5.out).mono ?_); rintro e w6 ⟨⟨a6, c6, rfl, ho⟩, hb⟩; have HB6 := Lib.hid (HB5.out.trans (hb.mono HB5.out.size)); have C6 := Lib.hid (C5.out.below hb); have R6 := Lib.hid (R5.out.below hb); obtain ⟨d60, d61, d62⟩ := C6.out.cells; obtain ⟨f60, f61, f62⟩ := C6.out.fz; obtain ⟨e60, e61, e62⟩ := R6.out.cells; obtain ⟨g60, g61, g62⟩ := R6.out.fz; have HO6 := Lib.hid ho; clear ho; clear hb))
      go_wp2
      refine bodyPost_log3 rfl (w.heap.size + 1) b t (.slice a6 n c6) rfl rfl ?_ ?_
      case refine_1 => exact ((R6.out.set0 _).set1 _).set2 _
      case refine_2 => exact ⟨HP.out _ _ _ _ (((HO6.out.put (p := w.heap.size + 1) (by have := R5.out.lt; omega) 0 _).put (p := w.heap.size + 1) (by have := R5.out.lt; omega) 1 _).put (p := w.heap.size + 1) (by have := R5.out.lt; omega) 2 _) HB5.out.size, ((HB6.out.setCell (by exact Nat.le_succ _) _).setCell (by exact Nat.le_succ _) _).setCell (by exact Nat.le_succ _) _⟩
end Lo
end Go.Proofs.Ytjalmciaaenmjaa
