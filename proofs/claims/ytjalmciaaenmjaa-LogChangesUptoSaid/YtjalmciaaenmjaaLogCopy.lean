/-
  COPIES: gafferref03.Copy, gafferref14.Copy.
-/
import Derived.Test.YtjalmciaaenmjaaLogGrow
import Derived.Laws.OwnMore
import Derived.Deep.Cut
namespace Go.Proofs.Ytjalmciaaenmjaa
open Go.RowKit Go.Lib
namespace Lo
set_option linter.unusedVariables false
theorem append_nil {P : Program} {w : World} {ops : Array Oper} {rest : List Oper} {o : Oper} {a : Act} {Q : Exit → Act → World → Prop} (hgd : o.guard = none) (s x : Operand) (t : TypeId)
    (ho : o.op = .call { callee := .builtin .append, args := #[s, x], argTypes := #[t, t] }) (base : Nat) (e : TypeId) (i : TypeInfo) (size : Nat) (ht : P.underlying t = some (.slice e)) (hi : P.info? e = some i)
    (v : Value) (n c : Nat) (xs : List Value) (hs : a.eval s = v) (hown : w.ownsRow base e size v n xs) (hx : a.eval x = .slice none 0 c) (h : wpList P ops Q rest (a.put o.dst v) w) : wpList P ops Q (o :: rest) a w := by
  refine wpList_plain hgd fun K hK => ?_
  have hrun : (Builtin.append_ #[t, t] o.type #[v, .slice none 0 c]).run P w = .ok v w := by
    rcases hown.2 with ⟨rfl, rfl⟩ | ⟨g, cap, cur, rfl, _, _, hnc, _⟩
    · simp [Builtin.append_, run_underlying ht, sizeOf, typeInfo, hi, Builtin.lenOf, Builtin.firstCells]
    · simp [Builtin.append_, run_underlying ht, sizeOf, typeInfo, hi, Builtin.lenOf, Builtin.firstCells, hnc, storeCells]
  unfold Oper.wp
  simp [execOp, ho, resolve, invoke, builtin, hs, hx, hrun, Result.andThen]
  exact hK _ _ h
/-- One entry more behind a row of the call's own. -/
theorem Gr.app1 {w : World} {base A B : Nat} {v : Value} {l : List En} (h : Gr w base v l) (e : En) (u : Value) (h1 : Lt64 e.i) (h2 : Lt64 e.t) (hI : IntsR w A B u e.ks) (hbA : base ≤ A) (hB : B ≤ w.heap.size) (hA : ∀ g, v.ownBlock = some g → g < A ∨ B ≤ g) :
    ∃ xs, w.ownsRow base 53 5 v l.length xs ∧ ∀ (v' : Value) (w' : World), w'.ownsRow base 53 5 v' (l.length + 1) (xs ++ encE e u) → w.grownBy w' v.ownBlock → (v'.ownBlock = v.ownBlock ∨ v'.ownBlock = some w.heap.size) → Gr w' base v' (l ++ [e]) := by
  obtain ⟨ps, k1, k2, k3⟩ := h
  refine ⟨flatE ps, k2, fun v' w' r1 r2 r3 => ⟨ps ++ [(e, u)], by rw [List.map_append, k1]; rfl, ?_, fun p hp => ?_⟩⟩
  · rw [flatE_app, List.length_append]
    simpa [flatE] using r1
  · rcases List.mem_append.1 hp with hp | hp
    · obtain ⟨i1, i2, A1, B1, i3, i0, i4, i5⟩ := k3 p hp
      refine ⟨i1, i2, A1, B1, i3.grown r2 i5, i0, Nat.le_trans i4 r2.size, fun g hg => ?_⟩
      rcases r3 with r3 | r3
      · exact i5 g (r3 ▸ hg)
      · rw [r3] at hg; cases hg; exact .inr i4
    · simp only [List.mem_singleton] at hp
      subst hp
      refine ⟨h1, h2, A, B, hI.grown r2 hA, hbA, Nat.le_trans hB r2.size, fun g hg => ?_⟩
      rcases r3 with r3 | r3
      · exact hA g (r3 ▸ hg)
      · rw [r3] at hg; cases hg; exact .inr hB
theorem enc_one (e : En) (u : Value) (h : u.oneCell' = true) : ∀ x ∈ encE e u, x.oneCell' = true := by
  intro x hx
  simp only [encE, List.mem_cons, List.not_mem_nil, or_false] at hx
  rcases hx with rfl | rfl | rfl | rfl | rfl
  · rfl
  · rfl
  · rfl
  · rfl
  · exact h
theorem new_cells (w : World) (cs : List Value) (T : TypeId) : ∀ j u, cs[j]? = some u → (w.alloc (.cells cs.toArray T)).cell? ((⟨w.heap.size, 0, none⟩ : Addr).add j) = some u := by
  intro j u hj
  rw [Addr.add_lit, Nat.zero_add, cell_of_row _ _ j _ _ (0, 0) (heap_alloc_new w _)]
  simpa using hj
/-- A box with an entry. -/
def Eb (w : World) (B : Nat) (e : En) (u : Value) : Prop := w.heap[B]? = some (.cells #[.int .u64 (e.i : Nat), .int .u64 (e.t : Nat), .int .u8 (e.k : Nat), .string e.d, u] 53 (0, 0))
theorem Eb.cells {w : World} {B : Nat} {e : En} {u : Value} (h : Eb w B e u) : w.cell? ⟨B, 0, none⟩ = some (.int .u64 (e.i : Nat)) ∧ w.cell? ⟨B, 1, none⟩ = some (.int .u64 (e.t : Nat)) ∧ w.cell? ⟨B, 2, none⟩ = some (.int .u8 (e.k : Nat)) ∧ w.cell? ⟨B, 3, none⟩ = some (.string e.d) ∧ w.cell? ⟨B, 4, none⟩ = some u ∧ w.frozen? ⟨B, 4, none⟩ = false :=
  ⟨by rw [cell_of_row w B 0 _ _ (0, 0) h]; rfl, by rw [cell_of_row w B 1 _ _ (0, 0) h]; rfl, by rw [cell_of_row w B 2 _ _ (0, 0) h]; rfl, by rw [cell_of_row w B 3 _ _ (0, 0) h]; rfl, by rw [cell_of_row w B 4 _ _ (0, 0) h]; rfl, frozen_of_row w B 4 _ _ h⟩
theorem Eb.set {w : World} {B : Nat} {e : En} {u : Value} (h : Eb w B e u) (v : Value) : Eb (w.setCell ⟨B, 4, none⟩ v) B e v := by
  unfold Eb at h ⊢
  simp [World.setCell, Array.getElem?_modify, h]
theorem Eb.lt {w : World} {B : Nat} {e : En} {u : Value} (h : Eb w B e u) : B < w.heap.size := (Array.getElem?_eq_some_iff.1 h).1
theorem IntsR.put2 {w : World} {A B : Nat} {v : Value} {ks : List Int} (h : IntsR w A B v ks) {g : Nat} (hg : g < A) (j : Nat) (u : Value) : IntsR (w.setCell ⟨g, j, none⟩ u) A (w.setCell ⟨g, j, none⟩ u).heap.size v ks ∨ B > w.heap.size := by
  by_cases hB : B ≤ w.heap.size
  · left
    obtain ⟨a, c, rfl, h1, h2, h3⟩ := h
    refine ⟨a, c, rfl, h1, h2, fun hp => ?_⟩
    obtain ⟨b, off, rfl, hA, hlt, hc⟩ := h3 hp
    refine ⟨b, off, rfl, hA, by simp; omega, fun i hi => ?_⟩
    rw [World.cell?_setCell_far _ _ _ _ (by show g ≠ b; omega)]
    exact hc i hi
  · right; omega
/-- What the copy of an entry's members leaves. -/
structure Ci (wr z : World) (P1 : Nat) (e : En) (u : Value) : Prop where
  eb : Eb z P1 e u
  iv : IntsR z (P1 + 1) z.heap.size u e.ks
  be : Below P1 wr z
  one : u.oneCell' = true
theorem Ci.mk' {wr z : World} {e : En} {u u0 : Value} (h1 : Eb z wr.heap.size e u0) (h2 : IntsR z (wr.heap.size + 1) z.heap.size u e.ks) (h3 : Below wr.heap.size wr z) : Ci wr (z.setCell ⟨wr.heap.size, 4, none⟩ u) wr.heap.size e u := by
  refine ⟨h1.set u, ?_, h3.setCell (by exact Nat.le_refl _) _, ?_⟩
  · rcases h2.put2 (Nat.lt_succ_self _) 4 u with h | h
    · exact h
    · exact absurd h (Nat.lt_irrefl _)
  · obtain ⟨a, c, e, -⟩ := h2
    rw [e]; rfl
set_option maxHeartbeats 16000000 in
set_option maxRecDepth 100000 in
theorem copy_ents (a : Option Addr) (c : Nat) (l : List En) (w : World) {A : Nat} (h : Sl w A w.heap.size a c l) :
    Calls Try.prog 25 #[.slice a l.length c] w fun e w' => (∃ a' c', e = .returned (.slice a' l.length c') ∧ Gr w' w.heap.size (.slice a' l.length c') l) ∧ Below w.heap.size w w' := by
  have HS0 := Lib.hid h
  have HLN := Lib.hid h.len
  clear h
  obtain ⟨i0, hi, hz0, hz1, hz2⟩ := info_parts info_entry
  obtain ⟨j0, hj, hy0, hy1, hy2⟩ := info_parts info_int
  go_enter Try.func25, Try.ntmps25
  go_wp2
  go_loopg [3, 8] l.length (fun gg rv i wx => ∃ k : Nat, k + gg = l.length ∧ i = .int .i64 k ∧ Aside (Gr wx w.heap.size rv (l.take k)) ∧ Aside (Below w.heap.size w wx))
  case atStart => exact ⟨0, by omega, rfl, by rw [List.take_zero]; exact Gr.nil _ _, Below.refl _ _⟩
  case round =>
    obtain ⟨k, hkg, rfl, HGR, HBW⟩ := hrel
    cases gk with
    | zero =>
      obtain rfl : k = l.length := by omega
      have hG := HGR.out
      rw [List.take_length] at hG
      obtain ⟨a1, c1, rfl⟩ := hG.slice
      have HG := Lib.hid hG
      clear hkg hG HGR
      go_wp2
      go_ret
      exact ⟨⟨a1, c1, rfl, HG.out⟩, HBW.out⟩
    | succ gg =>
      have hlt : k < l.length := by omega
      have hlt2 : (k : Int) < (l.length : Int) := by omega
      have tk : IntKind.i64.wrap ((k : Int) + 1) = (k : Int) + 1 := by have := HLN.out; rw [IntKind.wrap_i64]; omega
      have hlk : (l.take k).length = k := by rw [List.length_take]; omega
      obtain ⟨a1, c1, rfl⟩ := HGR.out.slice
      rw [hlk] at HGR ⊢
      obtain ⟨blk, off, rfl, -, hbk, u, hc⟩ := (HS0.out.keep HBW.out).at k hlt
      obtain ⟨c0, c1', c2', c3', c4, iv, i64, t64⟩ := hc
      have HCAT := Lib.hid (show l.take k ++ [l[k]] = l.take (k + 1) by rw [List.take_add_one, List.getElem?_eq_getElem hlt]; rfl)
      have HLK := Lib.hid hlk
      have HK := Lib.hid hkg
      have I64 := Lib.hid i64
      have T64 := Lib.hid t64
      have HM1 := Lib.hid (show k + 1 ≤ maxLen by have := HLN.out; simp only [maxLen]; omega)
      have HM2 := Lib.hid (show (k + 1) * 64 ≤ 140737488355328 by have := HLN.out; omega)
      have HIV := Lib.hid (iv.more HBW.out.size (Nat.zero_le _))
      clear iv i64 t64 hkg hlk
      generalize l[k] = e at *
      rcases e with ⟨ei, et, ek, ed, es⟩
      simp only at c0 c1' c2' c3' c4 I64 T64 HIV
      have OWN0 : Hid (((wr.alloc (.cells #[.int .u64 (ei : Nat), .int .u64 (et : Nat), .int .u8 (ek : Nat), .string ed, u] 53)).alloc (.cells #[] 3)).ownsRow (wr.heap.size + 1) 3 1 (.slice (some ⟨wr.heap.size + 1, 0, none⟩) 0 0) 0 []) := by
        have h9 := World.ownsRow_made (e := 3) (size := 1) (wr.alloc (.cells #[.int .u64 (ei : Nat), .int .u64 (et : Nat), .int .u8 (ek : Nat), .string ed, u] 53)) #[] 0 (Nat.le_refl _) (Nat.zero_le _) (by simp)
        rw [World.size_alloc] at h9
        exact h9
      have HA2 : Hid (Below wr.heap.size wr ((wr.alloc (.cells #[.int .u64 (ei : Nat), .int .u64 (et : Nat), .int .u8 (ek : Nat), .string ed, u] 53)).alloc (.cells #[] 3))) := ((Below.refl _ _).alloc (Nat.le_refl _) _).alloc (by simp) _
      have HEB : Hid (Eb ((wr.alloc (.cells #[.int .u64 (ei : Nat), .int .u64 (et : Nat), .int .u8 (ek : Nat), .string ed, u] 53)).alloc (.cells #[] 3)) wr.heap.size ⟨ei, et, ek, ed, es⟩ u) := (heap_alloc_old _ _ (by simp)).trans (heap_alloc_new wr _)
      have hiv := HIV.out
      obtain ⟨ua, uc, rfl, hk1, hk2, hk3⟩ := hiv
      cases ua with
      | none =>
        have h0 : es = [] := by
          by_cases hn : 0 < es.length
          · obtain ⟨_, _, he, _⟩ := hk3 hn; cases he
          · exact List.eq_nil_of_length_eq_zero (by omega)
        subst h0
        clear hk1 hk2 hk3
        rw [List.length_nil] at c4 OWN0 HA2 HEB
        go_upto_region 6 with (at_builtin; go_loud (refine append_nil rfl _ _ 26 rfl (wr.heap.size + 1) 3 j0 1 Try.underlying26 hj (.slice (some ⟨wr.heap.size + 1, 0, none⟩) 0 0) 0 uc [] rfl OWN0.out rfl ?_))
        have HCI : Hid (Ci wr ((wr.alloc (.cells #[.int .u64 (ei : Nat), .int .u64 (et : Nat), .int .u8 (ek : Nat), .string ed, .slice (some ⟨wr.heap.size + 1, 0, none⟩) 0 0] 53)).alloc (.cells #[] 3)) wr.heap.size ⟨ei, et, ek, ed, []⟩ (.slice (some ⟨wr.heap.size + 1, 0, none⟩) 0 0)) := ⟨(heap_alloc_old _ _ (by simp)).trans (heap_alloc_new wr _), ⟨_, _, rfl, by simp, by simp, by simp⟩, ((Below.refl _ _).alloc (Nat.le_refl _) _).alloc (by simp) _, rfl⟩
        have HG3 := Lib.hid (HGR.out.below HCI.out.be)
        generalize ((wr.alloc (.cells #[.int .u64 (ei : Nat), .int .u64 (et : Nat), .int .u8 (ek : Nat), .string ed, .slice (some ⟨wr.heap.size + 1, 0, none⟩) 0 0] 53)).alloc (.cells #[] 3)) = z3 at *
        have hlg := HG3.out.lt
        have HI3 := HCI.out.iv
        have hp1 := HCI.out.eb.lt
        obtain ⟨k0, k1, k2, k3, k4, -⟩ := HCI.out.eb.cells
        have HV3 := Lib.hid ((HBW.out.trans (HCI.out.be.mono HBW.out.size)))
        have hz3 := HCI.out.be.size
        have HNB := Lib.hid ((Below.refl z3.heap.size z3).alloc (Nat.le_refl _) (.cells (encE ⟨ei, et, ek, ed, []⟩ (.slice (some ⟨wr.heap.size + 1, 0, none⟩) 0 0)).toArray 53))
        obtain ⟨xs, O1, FIN⟩ := (HG3.out.below HNB.out).app1 ⟨ei, et, ek, ed, []⟩ (.slice (some ⟨wr.heap.size + 1, 0, none⟩) 0 0) I64.out T64.out ((HI3.keep HNB.out) : IntsR _ (wr.heap.size + 1) z3.heap.size _ _) (Nat.le_succ_of_le HBW.out.size) HNB.out.size (fun g hg => .inl (Nat.lt_succ_of_lt (HGR.out.lt g hg).2))
        rw [HLK.out] at O1 FIN
        rw [HCAT.out] at FIN
        have O1 := Lib.hid O1
        have FIN := Lib.hid FIN
        have NC := Lib.hid (new_cells z3 (encE ⟨ei, et, ek, ed, []⟩ (.slice (some ⟨wr.heap.size + 1, 0, none⟩) 0 0)) 53)
        have E1 := Lib.hid (enc_one ⟨ei, et, ek, ed, []⟩ (.slice (some ⟨wr.heap.size + 1, 0, none⟩) 0 0) rfl)
        have HSZ := Lib.hid (Nat.le_trans HV3.out.size HNB.out.size)
        have HNC := Lib.hid (HV3.out.trans (HNB.out.mono HV3.out.size))
        clear HI3 hlg hp1 hz3
        go_wp2_with (at_builtin; go_loud (refine wpList_append_own_at _ rfl _ _ 23 rfl w.heap.size 53 i0 _ 5 64 Try.underlying23 hi hz0 hz1 hz2 rfl (by omega) (.slice a1 k c1) k xs rfl O1.out ⟨z3.heap.size, 0, none⟩ 1 1 (encE ⟨ei, et, ek, ed, []⟩ (.slice (some ⟨wr.heap.size + 1, 0, none⟩) 0 0)) rfl rfl NC.out E1.out HM1.out HM2.out HSZ.out ?_; intro v' w4 hown hgrow hnil hat; have HG4 := Lib.hid (FIN.out v' w4 hown hgrow hat); have HV4 := Lib.hid (HNC.out.grown hgrow HSZ.out (fun j hj => ((HGR.out.lt j hj).1))); clear hown hgrow hnil hat))
        go_wp2
        go_roundg gg
        case measure => omega
        case rel => exact ⟨k + 1, by have := HK.out; omega, by simp, HG4.out, HV4.out⟩
      | some ad =>
        have CI := Lib.hid (ints_cells HIV.out ad rfl)
        have H3 := Lib.hid (show (es.map fun k => Value.int .i64 k).length = es.length * 1 by simp)
        have H1 := Lib.hid (map_one es)
        have HK1 := Lib.hid hk1
        have HK2 := Lib.hid hk2
        have n1 := Lib.hid (show 0 + es.length ≤ maxLen by simp only [maxLen]; omega)
        have n2 := Lib.hid (show (0 + es.length) * 8 ≤ 140737488355328 by omega)
        clear hk1 hk2 hk3
        generalize hx : (es.map fun k => Value.int .i64 k) = xs0 at CI H3 H1
        have HX := Lib.hid hx
        clear hx
        go_upto_region 6 with (at_builtin; go_loud (refine wpList_append_own_at _ rfl _ _ 26 rfl (wr.heap.size + 1) 3 j0 _ 1 8 Try.underlying26 hj hy0 hy1 hy2 rfl (by omega) (.slice (some ⟨wr.heap.size + 1, 0, none⟩) 0 0) 0 [] rfl OWN0.out ad es.length uc xs0 rfl H3.out (fun j u hj => Lib.cell?_alloc_some _ (Lib.cell?_alloc_some _ (CI.out j u hj))) H1.out n1.out n2.out (by simp) ?_; intro v2 w2 hown hgrow hnil hat; have hown' : w2.ownsRow (wr.heap.size + 1) 3 1 v2 es.length (es.map fun k => Value.int .i64 k) := (by rw [HX.out]; simpa using hown); obtain ⟨va, vc, rfl, hI, hT⟩ := own_ints hown' HK1.out HK2.out; have HI2 := Lib.hid hI; have HB2 := Lib.hid (HA2.out.grown hgrow HA2.out.size (fun j hj => by cases hj; exact Nat.le_succ _)); have HE2 : Hid (Eb w2 wr.heap.size ⟨ei, et, ek, ed, es⟩ (.slice (some ad) es.length uc)) := (hgrow.block wr.heap.size (by simp only [World.size_alloc]; omega) (fun e => absurd (Option.some.inj e) (Nat.ne_of_lt (Nat.lt_succ_self _)))).trans HEB.out; obtain ⟨y0, y1, y2, y3, y4, yf⟩ := HE2.out.cells; clear hown hown' hgrow hnil hat hI hT))
        have HCI := Lib.hid (Ci.mk' (e := ⟨ei, et, ek, ed, es⟩) HE2.out HI2.out HB2.out)
        have HG3 := Lib.hid (HGR.out.below HCI.out.be)
        generalize w2.setCell ⟨wr.heap.size, 4, none⟩ (.slice va es.length vc) = z3 at *
        have hlg := HG3.out.lt
        have HI3 := HCI.out.iv
        have hp1 := HCI.out.eb.lt
        obtain ⟨k0, k1, k2, k3, k4, -⟩ := HCI.out.eb.cells
        have HV3 := Lib.hid ((HBW.out.trans (HCI.out.be.mono HBW.out.size)))
        have hz3 := HCI.out.be.size
        have HNB := Lib.hid ((Below.refl z3.heap.size z3).alloc (Nat.le_refl _) (.cells (encE ⟨ei, et, ek, ed, es⟩ (.slice va es.length vc)).toArray 53))
        obtain ⟨xs, O1, FIN⟩ := (HG3.out.below HNB.out).app1 ⟨ei, et, ek, ed, es⟩ (.slice va es.length vc) I64.out T64.out ((HI3.keep HNB.out) : IntsR _ (wr.heap.size + 1) z3.heap.size _ _) (Nat.le_succ_of_le HBW.out.size) HNB.out.size (fun g hg => .inl (Nat.lt_succ_of_lt (HGR.out.lt g hg).2))
        rw [HLK.out] at O1 FIN
        rw [HCAT.out] at FIN
        have O1 := Lib.hid O1
        have FIN := Lib.hid FIN
        have NC := Lib.hid (new_cells z3 (encE ⟨ei, et, ek, ed, es⟩ (.slice va es.length vc)) 53)
        have E1 := Lib.hid (enc_one ⟨ei, et, ek, ed, es⟩ (.slice va es.length vc) rfl)
        have HSZ := Lib.hid (Nat.le_trans HV3.out.size HNB.out.size)
        have HNC := Lib.hid (HV3.out.trans (HNB.out.mono HV3.out.size))
        clear HI3 hlg hp1 hz3
        go_wp2_with (at_builtin; go_loud (refine wpList_append_own_at _ rfl _ _ 23 rfl w.heap.size 53 i0 _ 5 64 Try.underlying23 hi hz0 hz1 hz2 rfl (by omega) (.slice a1 k c1) k xs rfl O1.out ⟨z3.heap.size, 0, none⟩ 1 1 (encE ⟨ei, et, ek, ed, es⟩ (.slice va es.length vc)) rfl rfl NC.out E1.out HM1.out HM2.out HSZ.out ?_; intro v' w4 hown hgrow hnil hat; have HG4 := Lib.hid (FIN.out v' w4 hown hgrow hat); have HV4 := Lib.hid (HNC.out.grown hgrow HSZ.out (fun j hj => ((HGR.out.lt j hj).1))); clear hown hgrow hnil hat))
        go_wp2
        go_roundg gg
        case measure => omega
        case rel => exact ⟨k + 1, by have := HK.out; omega, by simp, HG4.out, HV4.out⟩
set_option maxHeartbeats 2000000 in
theorem copy_log (b t : Nat) (a : Option Addr) (c : Nat) (l : List En) (w : World) {A : Nat} (h : Sl w A w.heap.size a c l) :
    Calls Try.prog 24 #[.agg #[.int .u64 (b : Nat), .int .u64 (t : Nat), .slice a l.length c]] w fun e w' => (∃ a' c', e = .returned (.agg #[.int .u64 (b : Nat), .int .u64 (t : Nat), .slice a' l.length c']) ∧ Sl w' w.heap.size w'.heap.size a' c' l) ∧ Below w.heap.size w w' := by
  have hB : Below w.heap.size w ((w.alloc (.cells #[.int .u64 (b : Nat), .int .u64 (t : Nat), .slice a l.length c] 25)).alloc (.cells #[.int .u64 0, .int .u64 0, .slice none 0 0] 25)) := ((Below.refl _ _).alloc (Nat.le_refl _) _).alloc (by simp) _
  have HB0 := Lib.hid hB
  have C0 := Lib.hid ((Bx3.made w (.int .u64 (b : Nat)) (.int .u64 (t : Nat)) (.slice a l.length c) 25).al (.cells #[.int .u64 0, .int .u64 0, .slice none 0 0] 25))
  have R0 := Lib.hid (show Bx3 ((w.alloc (.cells #[.int .u64 (b : Nat), .int .u64 (t : Nat), .slice a l.length c] 25)).alloc (.cells #[.int .u64 0, .int .u64 0, .slice none 0 0] 25)) (w.heap.size + 1) (.int .u64 0) (.int .u64 0) (.slice none 0 0) by have h9 := Bx3.made (w.alloc (.cells #[.int .u64 (b : Nat), .int .u64 (t : Nat), .slice a l.length c] 25)) (.int .u64 0) (.int .u64 0) (.slice none 0 0) 25; rw [World.size_alloc] at h9; exact h9)
  have HC := Lib.hid (copy_ents a c l _ (h.on hB))
  have HLN := Lib.hid h.len
  clear hB h
  go_enter Try.func24, Try.ntmps24
  go_wp2_with (go_at_call 25; go_loud ((with_reducible refine HC.out.mono ?_); rintro e w1 ⟨⟨a1, c1, rfl, hG⟩, hb⟩; have HG := Lib.hid (hG.slb HLN.out); have HB1 := Lib.hid (HB0.out.trans (hb.mono HB0.out.size)); have C1 := Lib.hid (C0.out.below hb); have R1 := Lib.hid (R0.out.below hb); obtain ⟨d10, d11, d12⟩ := C1.out.cells; obtain ⟨f10, f11, f12⟩ := C1.out.fz; obtain ⟨e10, e11, e12⟩ := R1.out.cells; obtain ⟨g10, g11, g12⟩ := R1.out.fz; clear hb hG HC))
  go_wp2
  refine bodyPost_log1 rfl (w.heap.size + 1) b t (.slice a1 l.length c1) rfl rfl ?_ ?_
  case refine_1 => exact (((R1.out.far (by omega) 2 _).set0 _).set1 _).set2 _
  case refine_2 =>
    have h1 := HG.out
    simp only [World.size_alloc] at h1
    have h2 := ((((h1.box (p := w.heap.size) (.inl (by omega)) 2 (.slice a1 l.length c1)).box (p := w.heap.size + 1) (.inl (by omega)) 0 (.int .u64 (b : Nat))).box (p := w.heap.size + 1) (.inl (by omega)) 1 (.int .u64 (t : Nat))).box (p := w.heap.size + 1) (.inl (by omega)) 2 (.slice a1 l.length c1))
    exact ⟨⟨a1, c1, rfl, h2.more (by simp) (by omega)⟩, (((HB1.out.setCell (by exact Nat.le_refl _) _).setCell (by exact Nat.le_succ _) _).setCell (by exact Nat.le_succ _) _).setCell (by exact Nat.le_succ _) _⟩
end Lo
end Go.Proofs.Ytjalmciaaenmjaa
