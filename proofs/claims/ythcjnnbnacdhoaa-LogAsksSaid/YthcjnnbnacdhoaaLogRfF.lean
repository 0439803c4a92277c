/-
  ENTRIES FROM AN INDEX ON, as the document says it: gafferref14.From.
-/
import Derived.Test.YthcjnnbnacdhoaaLogRf3
import Derived.Test.YthcjnnbnacdhoaaLogFrom
namespace Go.Proofs.Ythcjnnbnacdhoaa
open Go.RowKit Go.Lib
namespace Lo
set_option linter.unusedVariables false
/-- What is taken of the first k entries. -/
def foL (l : List En) (d M k : Nat) : List En := ((l.take k).drop d).take M
theorem fo_len (l : List En) (d M k : Nat) (h : k ≤ l.length) : (foL l d M k).length = min M (k - d) := by
  unfold foL
  rw [List.length_take, List.length_drop, List.length_take, Nat.min_eq_left h]
theorem fo_in (l : List En) (d M k : Nat) (h : k < l.length) (h1 : d ≤ k) (h2 : k - d < M) : foL l d M (k + 1) = foL l d M k ++ [l[k]] := by
  unfold foL
  have e1 : l.take (k + 1) = l.take k ++ [l[k]] := by rw [List.take_add_one, List.getElem?_eq_getElem h]; rfl
  rw [e1, List.drop_append_of_le_length (by rw [List.length_take]; omega)]
  have hr : ((l.take k).drop d).length = k - d := by rw [List.length_drop, List.length_take]; omega
  generalize (l.take k).drop d = r at *
  rw [List.take_of_length_le (by rw [List.length_append, hr, List.length_singleton]; omega), List.take_of_length_le (by omega)]
theorem fo_out (l : List En) (d M k : Nat) (h : k < l.length) (h1 : ¬ d ≤ k ∨ ¬ k - d < M) : foL l d M (k + 1) = foL l d M k := by
  unfold foL
  have e1 : l.take (k + 1) = l.take k ++ [l[k]] := by rw [List.take_add_one, List.getElem?_eq_getElem h]; rfl
  have hk : (l.take k).length = k := by rw [List.length_take]; omega
  by_cases hd : d ≤ k
  · have h2 := h1.resolve_left (by omega)
    rw [e1, List.drop_append_of_le_length (by omega), List.take_append_of_le_length (by rw [List.length_drop, hk]; omega)]
  · rw [List.drop_eq_nil_of_le (by rw [List.length_take]; omega), List.drop_eq_nil_of_le (by omega)]
theorem fr_eq {b t : Nat} {l : List En} {x : Nat} {m : Int} (hk : okB b t l = true) (hx : b < x) : frL b t l x m = foL l (x - 1 - b) m.toNat l.length := by
  unfold frL foL
  rw [if_pos hk, if_neg (by omega), List.take_length]
  have e1 : l.drop (mny b l.length (x - 1)) = l.drop (x - 1 - b) := by
    unfold mny
    by_cases h1 : x - 1 ≤ b
    · rw [if_pos h1, show x - 1 - b = 0 by omega]
    · rw [if_neg h1]
      by_cases h2 : x - 1 - b ≤ l.length
      · rw [Nat.min_eq_left h2]
      · rw [Nat.min_eq_right (by omega), List.drop_eq_nil_of_le (Nat.le_refl _), List.drop_eq_nil_of_le (by omega)]
  rw [e1]
  generalize l.drop (x - 1 - b) = r
  unfold frN
  by_cases hm : m < 0
  · rw [if_pos hm, show m.toNat = 0 by omega]
  · rw [if_neg hm]
    by_cases h2 : m.toNat ≤ r.length
    · rw [Nat.min_eq_left h2]
    · rw [Nat.min_eq_right (by omega), List.take_of_length_le (Nat.le_refl _), List.take_of_length_le (by omega)]
/-- A row of the call's own whose entries' members lie below B. -/
def Go0 (W w : World) (base B : Nat) (v : Value) (l : List En) : Prop := ∃ ps : List (En × Value), ps.map (·.1) = l ∧ w.ownsRow base 53 5 v l.length (flatE ps) ∧ OkP W 0 B ps
theorem Go0.slice {W w : World} {base B : Nat} {v : Value} {l : List En} (h : Go0 W w base B v l) : ∃ a c, v = .slice a l.length c := by
  obtain ⟨ps, h1, h2, h3⟩ := h
  rcases h2.2 with ⟨rfl, h0⟩ | ⟨g, cap, cur, rfl, _⟩
  · exact ⟨none, 0, by rw [h0]⟩
  · exact ⟨_, _, rfl⟩
theorem Go0.sl {W w : World} {base B : Nat} {a : Option Addr} {n c : Nat} {l : List En} (h : Go0 W w base B (.slice a n c) l) (hb : Below B W w) (hB : B ≤ w.heap.size) (hl : l.length ≤ 2199023255551) : Sl w 0 w.heap.size a c l := by
  obtain ⟨ps, h1, h2, h3⟩ := h
  obtain ⟨a', c', e, r1, r2, r3⟩ := own_rowp (A := 0) (B := B) h1 (fun p hp => ⟨(h3 p hp).1.keep hb, (h3 p hp).2⟩) h2
  cases e
  exact r3.sl hB r1 r2 hl
theorem Go0.app {W w : World} {base B : Nat} {v : Value} {l : List En} (h : Go0 W w base B v l) (e : En) (u : Value) (h1 : Lt64 e.i) (h2 : Lt64 e.t) (hI : IntsR W 0 B u e.ks) :
    ∃ xs, w.ownsRow base 53 5 v l.length xs ∧ ∀ (v' : Value) (w' : World), w'.ownsRow base 53 5 v' (l.length + 1) (xs ++ encE e u) → Go0 W w' base B v' (l ++ [e]) := by
  obtain ⟨ps, k1, k2, k3⟩ := h
  refine ⟨flatE ps, k2, fun v' w' r1 => ⟨ps ++ [(e, u)], by rw [List.map_append, k1]; rfl, ?_, fun p hp => ?_⟩⟩
  · rw [flatE_app, List.length_append]
    simpa [flatE] using r1
  · rcases List.mem_append.1 hp with hp | hp
    · exact k3 p hp
    · simp only [List.mem_singleton] at hp
      subst hp
      exact ⟨hI, h1, h2⟩
theorem Go0.keep {W w w' : World} {base B : Nat} {v : Value} {l : List En} (h : Go0 W w base B v l) (hb : Below w.heap.size w w') : Go0 W w' base B v l := by
  obtain ⟨ps, k1, k2, k3⟩ := h
  exact ⟨ps, k1, own_keep k2 hb, k3⟩
theorem Go0.lt {W w : World} {base B : Nat} {v : Value} {l : List En} (h : Go0 W w base B v l) : ∀ g, v.ownBlock = some g → base ≤ g := by
  obtain ⟨ps, -, h2, -⟩ := h
  exact fun g hg => (h2.lt g hg).1
theorem Go0.keepN {W w w' : World} {base B n : Nat} {a : Option Addr} {c : Nat} {l : List En} (h : Go0 W w base B (.slice a n c) l) (hn : l.length = n) (hb : Below w.heap.size w w') : Go0 W w' base B (.slice a n c) l := h.keep hb
/-- What the document's From answers. -/
def FrIs (b t : Nat) (l : List En) (x : Nat) (m : Int) (e : Ending) (w' : World) : Prop :=
  ∃ a c, e = .returned (.tuple #[.slice a (frL b t l x m).length c, .int .i64 (frE b t l x : Nat)]) ∧ Sl w' 0 w'.heap.size a c (frL b t l x m)
theorem FrIs.none {b t : Nat} {l : List En} {x : Nat} {m : Int} {r : Nat} (h : frL b t l x m = []) (he : frE b t l x = r) (w' : World) : FrIs b t l x m (.returned (.tuple #[.slice none 0 0, .int .i64 (r : Nat)])) w' :=
  ⟨Option.none, 0, by rw [h, he]; rfl, by rw [h]; exact Sl.empty _ _ _ _ _ (fun _ => rfl)⟩
set_option maxHeartbeats 16000000 in
set_option maxRecDepth 100000 in
theorem from_ref (b t x : Nat) (m : Int) (a : Option Addr) (c : Nat) (l : List En) (w : World) {A : Nat} (h : Sl w A w.heap.size a c l) (hb : Lt64 b) (hx : Lt64 x) :
    Calls Try.prog 14 #[.agg #[.int .u64 (b : Nat), .int .u64 (t : Nat), .slice a l.length c], .int .u64 (x : Nat), .int .i64 m] w fun e w' => FrIs b t l x m e w' ∧ Below w.heap.size w w' := by
  have hB : Below w.heap.size w (w.alloc (.cells #[.int .u64 (b : Nat), .int .u64 (t : Nat), .slice a l.length c] 25)) := (Below.refl _ _).alloc (Nat.le_refl _) _
  have HC := Lib.hid (check_log b t a c l _ (h.on hB) hb)
  have HB := Lib.hid hB
  have HLN := Lib.hid h.len
  have HSW := Lib.hid (h.more (Nat.le_refl _) (Nat.zero_le A))
  have C0 := Lib.hid (Bx3.made w (.int .u64 (b : Nat)) (.int .u64 (t : Nat)) (.slice a l.length c) 25)
  clear hB h
  cases hk : okB b t l
  · have HBAD := Lib.hid (fun w' => FrIs.none (b := b) (t := t) (l := l) (x := x) (m := m) (r := 10) (by unfold frL; rw [hk]; rfl) (by unfold frE; rw [hk]; rfl) w')
    rw [hk, lgE_f] at HC
    clear hk
    go_enter Try.func14, Try.ntmps14
    go_wp2_with (go_at_call 23; go_loud ((with_reducible refine HC.out.mono ?_); rintro e w1 ⟨rfl, hb1⟩; have HB1 := Lib.hid (HB.out.trans (hb1.mono HB.out.size)); have C1 := Lib.hid (C0.out.below hb1); obtain ⟨d0, d1, d2⟩ := C1.out.cells; clear hb1))
    go_wp2
    go_ret2
    exact ⟨HBAD.out _, HB1.out⟩
  · rw [hk, lgE_t] at HC
    by_cases h1 : x ≤ b
    · have HBAD := Lib.hid (fun w' => FrIs.none (b := b) (t := t) (l := l) (x := x) (m := m) (r := 15) (by unfold frL; rw [if_pos hk, if_pos h1]) (by unfold frE; rw [if_pos hk, if_pos h1]) w')
      have h1' : (x : Int) ≤ (b : Int) := by omega
      clear hk h1
      go_enter Try.func14, Try.ntmps14
      go_wp2_with (go_at_call 23; go_loud ((with_reducible refine HC.out.mono ?_); rintro e w1 ⟨rfl, hb1⟩; have HB1 := Lib.hid (HB.out.trans (hb1.mono HB.out.size)); have C1 := Lib.hid (C0.out.below hb1); obtain ⟨d0, d1, d2⟩ := C1.out.cells; clear hb1))
      go_wp2
      go_ret2
      exact ⟨HBAD.out _, HB1.out⟩
    · have h1' : ¬ (x : Int) ≤ (b : Int) := by omega
      have h1'' : decide ((x : Int) ≤ (b : Int)) = false := by simp; omega
      have h1x : decide (x ≤ b) = false := by simp; omega
      have HFE := Lib.hid (show frE b t l x = 0 by unfold frE; rw [if_pos hk, if_neg h1])
      have HFL := Lib.hid (fr_eq (m := m) hk (by omega : b < x))
      have HRW := Lib.hid (row_is l b (ok_is hk).2.1 hb).2
      have HX1 := Lib.hid (show x - 1 - b + b + 1 = x by omega)
      generalize x - 1 - b = d at *
      obtain ⟨M, hM⟩ : ∃ M, m.toNat = M := ⟨_, rfl⟩
      rw [hM] at HFL
      have HMM := Lib.hid hM
      obtain ⟨i0, hi, hz0, hz1, hz2⟩ := info_parts info_entry
      clear hk h1 hM
      go_enter Try.func14, Try.ntmps14
      go_wp2_with (go_at_call 23; go_loud ((with_reducible refine HC.out.mono ?_); rintro e w1 ⟨rfl, hb1⟩; have HB1 := Lib.hid (HB.out.trans (hb1.mono HB.out.size)); have C1 := Lib.hid (C0.out.below hb1); obtain ⟨d0, d1, d2⟩ := C1.out.cells; clear hb1))
      go_wp2
      go_loopg [8, 21] l.length (fun gg rv i wx => ∃ k : Nat, k + gg = l.length ∧ i = .int .i64 k ∧ Aside (Go0 w wx w.heap.size w.heap.size rv (foL l d M k)) ∧ Aside (Below w.heap.size w wx))
      case atStart => exact ⟨0, by omega, rfl, ⟨[], by unfold foL; rw [List.take_zero]; simp, by unfold foL; rw [List.take_zero]; simp [flatE]; exact ⟨rfl, .inl ⟨rfl, rfl⟩⟩, fun p hp => absurd hp (by simp)⟩, HB1.out⟩
      case round =>
        obtain ⟨k, hkg, rfl, HG, HBW⟩ := hrel
        cases gk with
        | zero =>
          obtain rfl : k = l.length := by omega
          obtain ⟨a1, c1, rfl⟩ := HG.out.slice
          have HFN := Lib.hid (fo_len l d M l.length (Nat.le_refl _))
          have HCP := Lib.hid (copy_ents a1 c1 (foL l d M l.length) wr (A := 0) (HG.out.sl HBW.out HBW.out.size (by have := HLN.out; rw [HFN.out]; omega)))
          clear hkg
          go_wp2_with (go_at_call 25; go_loud ((with_reducible refine HCP.out.mono ?_); rintro e w5 ⟨⟨a5, c5, rfl, ho⟩, hb⟩; have HO := Lib.hid (ho.sl (by have := HLN.out; rw [HFN.out]; omega)); have HB5 := Lib.hid (HBW.out.trans (hb.mono HBW.out.size)); clear hb ho))
          go_wp2
          go_ret2
          exact ⟨⟨a5, c5, by rw [HFL.out, HFE.out]; rfl, by rw [HFL.out]; exact HO.out⟩, HB5.out⟩
        | succ gg =>
          have hlt : k < l.length := by omega
          have hlt2 : (k : Int) < (l.length : Int) := by omega
          have tk : IntKind.i64.wrap ((k : Int) + 1) = (k : Int) + 1 := by have := HLN.out; rw [IntKind.wrap_i64]; omega
          obtain ⟨blk, off, rfl, -, hbk, u, hcw⟩ := HSW.out.at k hlt
          obtain ⟨c0, c1', c2', c3', c4, -, -, -⟩ := hcw.keep HBW.out hbk
          have iv := hcw.iv
          have HK := Lib.hid hkg
          have HIV := Lib.hid (iv.more (Nat.le_refl _) (Nat.zero_le _))
          have I64 := Lib.hid hcw.i64
          have T64 := Lib.hid hcw.t64
          obtain ⟨ua, uc, rfl⟩ := iv.slice
          obtain ⟨a1, c1, rfl⟩ := HG.out.slice
          have hei := (HRW.out k hlt).1
          have HFN := Lib.hid (fo_len l d M k (Nat.le_of_lt hlt))
          have HIN := Lib.hid (fo_in l d M k hlt)
          have HOUT := Lib.hid (fo_out l d M k hlt)
          clear hkg iv hcw
          generalize l[k] = e at *
          rcases e with ⟨ei, et, ek, ed, eks⟩
          simp only at c0 c1' c2' c3' c4 HIV I64 T64 hei
          obtain ⟨n, hn⟩ : ∃ n, (foL l d M k).length = n := ⟨_, rfl⟩
          rw [hn] at HFN HG ⊢
          have HN := Lib.hid hn
          clear hn
          have HBN := Lib.hid (HBW.out.alloc HBW.out.size (.cells #[.int .u64 (ei : Nat), .int .u64 (et : Nat), .int .u8 (ek : Nat), .string ed, .slice ua eks.length uc] 53))
          by_cases h1 : d ≤ k ∧ k - d < M
          · obtain ⟨h2, h3⟩ := h1
            have y1 : (x : Int) ≤ (ei : Int) := by have := HX1.out; omega
            have y2 : (n : Int) < m := by have := HFN.out; have := HMM.out; omega
            have NB := Lib.hid (show k - d = n by have := HFN.out; omega)
            have HE := Lib.hid (HIN.out h2 h3)
            have hG2 := (HG.out.keep ((Below.refl _ _).alloc (Nat.le_refl _) (.cells #[.int .u64 (ei : Nat), .int .u64 (et : Nat), .int .u8 (ek : Nat), .string ed, .slice ua eks.length uc] 53))).keep ((Below.refl _ _).alloc (Nat.le_refl _) (.cells #[.int .u64 (ei : Nat), .int .u64 (et : Nat), .int .u8 (ek : Nat), .string ed, .slice ua eks.length uc] 53))
            obtain ⟨xs, O1, FIN⟩ := hG2.app ⟨ei, et, ek, ed, eks⟩ (.slice ua eks.length uc) I64.out T64.out HIV.out
            rw [HN.out] at O1 FIN
            rw [← HE.out] at FIN
            have O1 := Lib.hid O1
            have FIN := Lib.hid FIN
            have NC := Lib.hid (new_cells (wr.alloc (.cells #[.int .u64 (ei : Nat), .int .u64 (et : Nat), .int .u8 (ek : Nat), .string ed, .slice ua eks.length uc] 53)) (encE ⟨ei, et, ek, ed, eks⟩ (.slice ua eks.length uc)) 53)
            rw [World.size_alloc] at NC
            have E1 := Lib.hid (enc_one ⟨ei, et, ek, ed, eks⟩ (.slice ua eks.length uc) rfl)
            have HM1 := Lib.hid (show n + 1 ≤ maxLen by have := HLN.out; have := HFN.out; simp only [maxLen]; omega)
            have HM2 := Lib.hid (show (n + 1) * 64 ≤ 140737488355328 by have := HLN.out; have := HFN.out; omega)
            have HNC := Lib.hid (HBN.out.alloc HBN.out.size (.cells #[.int .u64 (ei : Nat), .int .u64 (et : Nat), .int .u8 (ek : Nat), .string ed, .slice ua eks.length uc] 53))
            clear h2 h3 hG2 hei HIN HOUT
            go_wp2_with (at_builtin; go_loud (refine wpList_append_own_at _ rfl _ _ 23 rfl w.heap.size 53 i0 _ 5 64 Try.underlying23 hi hz0 hz1 hz2 rfl (by omega) (.slice a1 n c1) n xs rfl O1.out ⟨wr.heap.size + 1, 0, none⟩ 1 1 (encE ⟨ei, et, ek, ed, eks⟩ (.slice ua eks.length uc)) rfl rfl NC.out E1.out HM1.out HM2.out HNC.out.size ?_; intro v' w4 hown hgrow hnil hat; have HG4 := Lib.hid (FIN.out v' w4 hown); have HV4 := Lib.hid (HNC.out.grown hgrow HNC.out.size (fun j hj => (HG.out.lt j hj))); clear hown hgrow hnil hat))
            go_wp2
            go_roundg gg
            case measure => omega
            case rel => exact ⟨k + 1, by have := HK.out; omega, by simp, HG4.out, HV4.out⟩
          · have HE := Lib.hid (HOUT.out (if h2 : d ≤ k then .inr (fun h3 => h1 ⟨h2, h3⟩) else .inl h2))
            by_cases h2 : d ≤ k
            · have y1 : (x : Int) ≤ (ei : Int) := by have := HX1.out; omega
              have y2 : ¬ (n : Int) < m := by have := HFN.out; have := HMM.out; have : ¬ k - d < M := (fun h3 => h1 ⟨h2, h3⟩); omega
              have y3 : decide ((n : Int) < m) = false := by simp; omega
              clear h1 h2 hei HIN HOUT
              go_wp2
              go_roundg gg
              case measure => omega
              case rel => exact ⟨k + 1, by have := HK.out; omega, by simp, by rw [HE.out]; exact HG.out.keepN HN.out ((Below.refl _ _).alloc (Nat.le_refl _) (.cells #[.int .u64 (ei : Nat), .int .u64 (et : Nat), .int .u8 (ek : Nat), .string ed, .slice ua eks.length uc] 53)), HBN.out⟩
            · have y1 : ¬ (x : Int) ≤ (ei : Int) := by have := HX1.out; omega
              have y2 : decide ((x : Int) ≤ (ei : Int)) = false := by simp; omega
              have y3 : decide (x ≤ ei) = false := by simp; have := HX1.out; omega
              clear h1 h2 hei HIN HOUT
              go_wp2
              go_roundg gg
              case measure => omega
              case rel => exact ⟨k + 1, by have := HK.out; omega, by simp, by rw [HE.out]; exact HG.out.keepN HN.out ((Below.refl _ _).alloc (Nat.le_refl _) (.cells #[.int .u64 (ei : Nat), .int .u64 (et : Nat), .int .u8 (ek : Nat), .string ed, .slice ua eks.length uc] 53)), HBN.out⟩
end Lo
end Go.Proofs.Ythcjnnbnacdhoaa
