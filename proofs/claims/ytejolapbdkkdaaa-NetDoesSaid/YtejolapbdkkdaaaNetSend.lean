/-
  net.Send.
-/
import Derived.Test.YtejolapbdkkdaaaNetRow
import Derived.RegionTactic
import Derived.ChangeAlike
namespace Go.Proofs.Ytejolapbdkkdaaa
open Go.RowKit Go.Lib
namespace Nt
open Rw
set_option linter.unusedVariables false
/-- What is put. -/
def sent (n l : List Pk) : List Pk := (l.filter rightB).take (4096 - n.length)
def SendOk (w : World) (n l : List Pk) (e : Ending) (w' : World) : Prop := ∃ v', e = .returned (.tuple #[.agg #[v'], .int .i64 ((sent n l).length : Nat), .int .i64 0]) ∧ OwnP w' w.heap.size v' (n ++ sent n l) ∧ Below w.heap.size w w'
theorem mk_room (w : World) (n : Nat) (h : n ≤ 4096) : (Instr.makeChan 46 (.int .i64 n)).run Try.prog w = .ok (.chan (some w.heap.size)) (w.alloc (.chan n #[] false 0 0 false)) := by
  obtain ⟨i0, hi0, hz0, hz1, hz2⟩ := info_parts info_pk
  exact Go.Conc.run_makeChan (P := Try.prog) (w := w) Try.underlying46 hi0 .i64 n (by omega) (by rw [hz2]; omega)
/-- What stays while packets go through the channel C. -/
structure StS (w : World) (v : Value) (C cap : Nat) (S : List Pk) (cl : Bool) (wx : World) : Prop where
  be : Below w.heap.size w wx
  ch : ∃ s r, wx.heap[C]? = some (.chan cap (S.map pkV).toArray cl s r false)
  lo : w.heap.size + 2 ≤ C
  c0 : wx.cell? ⟨w.heap.size, 0, none⟩ = some v
  c1 : wx.cell? ⟨w.heap.size + 1, 0, none⟩ = some (.slice none 0 0)
  f1 : wx.frozen? ⟨w.heap.size + 1, 0, none⟩ = false
theorem StS.lt {w : World} {v : Value} {C cap : Nat} {S : List Pk} {cl : Bool} {wx : World} (h : StS w v C cap S cl wx) : C < wx.heap.size := by
  obtain ⟨s, r, hc⟩ := h.ch
  exact (Array.getElem?_eq_some_iff.1 hc).1
theorem StS.go {w : World} {v : Value} {C cap : Nat} {S : List Pk} {cl : Bool} {wx wy : World} (h : StS w v C cap S cl wx) (hb : Below wx.heap.size wx wy) : StS w v C cap S cl wy := by
  have h1 := h.lo
  have h2 := h.lt
  obtain ⟨s, r, hc⟩ := h.ch
  exact ⟨h.be.trans (hb.mono h.be.size), ⟨s, r, Cm.chan_keep hc hb⟩, h1, (hb.cell (by show w.heap.size < _; omega)).trans h.c0, (hb.cell (by show w.heap.size + 1 < _; omega)).trans h.c1, (hb.frozen (by show w.heap.size + 1 < _; omega)).trans h.f1⟩
theorem StS.set {w : World} {v : Value} {C cap : Nat} {S S' : List Pk} {cl cl' : Bool} {wx : World} (s r : Nat) (h : StS w v C cap S cl wx) : StS w v C cap S' cl' (wx.setChan C cap (S'.map pkV).toArray cl' s r false) := by
  have h1 := h.lo
  have h2 := h.lt
  have ho : ∀ k, k ≠ C → (wx.setChan C cap (S'.map pkV).toArray cl' s r false).heap[k]? = wx.heap[k]? := fun k hk => by
    simp only [World.setChan]
    rw [Array.getElem?_setIfInBounds_ne (Ne.symm hk)]
  exact ⟨Go.Conc.below_setChan h.be (by omega) _ _ _ _ _ _, ⟨s, r, Go.Conc.heap_setChan _ _ _ _ _ _ _ _ h2⟩, h1, (World.cell?_of_block (ho _ (by show w.heap.size ≠ C; omega))).trans h.c0, (World.cell?_of_block (ho _ (by show w.heap.size + 1 ≠ C; omega))).trans h.c1, (World.frozen?_of_block (ho _ (by show w.heap.size + 1 ≠ C; omega))).trans h.f1⟩
theorem filt_at (l : List Pk) (k : Nat) (h : k < l.length) : (l.take (k + 1)).filter rightB = (l.take k).filter rightB ++ (if rightB l[k] then [l[k]] else []) := by
  rw [List.take_succ_eq_append_getElem h, List.filter_append]
  congr 1
  cases hq : rightB l[k] <;> simp [hq]
theorem sent_end {n l : List Pk} (h : (l.filter rightB).length ≤ 4096 - n.length) : sent n l = l.filter rightB := List.take_of_length_le h
theorem sent_full {n l : List Pk} (k : Nat) (h : ((l.take k).filter rightB).length = 4096 - n.length) : sent n l = (l.take k).filter rightB := by
  unfold sent
  conv => lhs; rw [← List.take_append_drop k l, List.filter_append]
  rw [List.take_append_of_le_length (by omega), List.take_of_length_le (by omega)]
theorem bd_size {b x k : Nat} {o : Obj} {w : World} (h : b < w.heap.size) : b < (w.alloc o).heap.size := by rw [World.size_alloc]; omega
theorem load_net (w : World) (B : Nat) (v : Value) (h0 : w.cell? ⟨B, 0, none⟩ = some v) : (loadVar 24 ⟨B, 0, none⟩).run Try.prog w = .ok (.agg #[v]) w := by
  have a := Try.isAgg24 w
  have b := Try.sizeOf24 w
  go_simp
theorem results_cell_tmp2 {fn : Func} {p u x : Tmp} {ty : TypeId} (h : fn.results = #[.cell p ty, .tmp u, .tmp x]) (tmps : Array Value) (P : Program) (w : World) :
    (results fn tmps).run P w = ((asAddr (tmps.getD p undef)).run P w).andThen fun a w₁ => ((loadVar ty a).run P w₁).andThen fun v w₂ => .ok (.tuple #[v, tmps.getD u undef, tmps.getD x undef]) w₂ := by
  simp only [results, h]
  simp [Sem.run_bind, Result.andThen]
theorem bodyPost_net3 {fn : Func} {p u x : Tmp} (h : fn.results = #[.cell p 24, .tmp u, .tmp x]) {R : Ending → World → Prop} {a : Act} {w : World} (B : Nat) (v : Value) (hd : a.defers = [])
    (hp : a.tmps.getD p undef = .pointer (some ⟨B, 0, none⟩)) (h0 : w.cell? ⟨B, 0, none⟩ = some v)
    (hR : R (.returned (.tuple #[.agg #[v], a.tmps.getD u undef, a.tmps.getD x undef])) w) : bodyPost Try.prog fn R .ret a w := by
  refine bodyPost_ret ?_ hd hR
  rw [results_cell_tmp2 h, hp]
  have := load_net w B v h0
  simp [asAddr, this, Result.andThen]
theorem ext1 (x : Pk) (R : List Pk) : ((x :: R).map pkV).toArray.extract 1 ((x :: R).map pkV).toArray.size = (R.map pkV).toArray := by
  apply Array.ext'
  simp
  exact List.take_of_length_le (by simp)
theorem StS.grown {w : World} {v : Value} {C cap : Nat} {S : List Pk} {cl : Bool} {wx wy : World} {own : Option Nat} (h : StS w v C cap S cl wx) (hg : wx.grownBy wy own) (hn : ∀ g, own = some g → C + 1 ≤ g) : StS w v C cap S cl wy := by
  have h1 := h.lo
  have h2 := h.lt
  obtain ⟨s, r, hc⟩ := h.ch
  have hne : ∀ k, k ≤ C → some k ≠ own := fun k hk e => by have := hn k e.symm; omega
  exact ⟨h.be.grown hg h.be.size (fun k hk => by have := hn k hk; omega), ⟨s, r, Cm.chan_grown hc hg (fun e => hne C (Nat.le_refl _) e.symm)⟩, h1, hg.cell h.c0 (hne _ (by show w.heap.size ≤ C; omega)), hg.cell h.c1 (hne _ (by show w.heap.size + 1 ≤ C; omega)), (World.frozen?_of_block (hg.block _ (by show w.heap.size + 1 < _; omega) (hne _ (by show w.heap.size + 1 ≤ C; omega)))).trans h.f1⟩
theorem push_pk (S : List Pk) (f t : Int) (d : ByteArray) : (S.map pkV).toArray.push (.agg #[.int .i64 f, .int .i64 t, .string d]) = ((S ++ [(⟨f, t, d⟩ : Pk)]).map pkV).toArray := by
  apply Array.ext'
  simp [pkV]
theorem one_ok (f t : Int) (d : ByteArray) : ∀ u ∈ ([.int .i64 f, .int .i64 t, .string d] : List Value), u.oneCell' = true := by
  intro u hu
  simp at hu
  rcases hu with rfl | rfl | rfl <;> rfl
theorem chan_size (S : List Pk) : (S.map pkV).toArray.size = S.length := by simp
theorem one_new (z : World) (f t : Int) (d : ByteArray) : ∀ j u, ([.int .i64 f, .int .i64 t, .string d] : List Value)[j]? = some u → (z.alloc (.cells #[.int .i64 f, .int .i64 t, .string d] 30)).cell? ((⟨z.heap.size, 0, none⟩ : Addr).add j) = some u := enc_new z (⟨f, t, d⟩ : Pk) 30
set_option maxRecDepth 100000 in
set_option maxHeartbeats 4000000 in
theorem send_own (va vl : Value) (n l : List Pk) (w : World) {A B : Nat} (hn : Sl w A w.heap.size va n) (hl : Sl w B w.heap.size vl l) (hq : netB n = true) :
    Calls Try.prog 8 #[.agg #[va], vl] w (SendOk w n l) := by
  have HX : Hid (∀ z, Below w.heap.size w z → Calls Try.prog 18 #[.agg #[va]] z fun e w' => e = .returned (.int .i64 0) ∧ Below z.heap.size z w') := fun z hz => by
    have := check_own va n z (hn.on hz)
    rwa [show errN n = 0 from if_pos hq] at this
  have hn4 : n.length ≤ 4096 := by
    unfold netB at hq
    rw [Bool.and_eq_true] at hq
    exact of_decide_eq_true hq.1
  obtain ⟨a, c, rfl⟩ := hn.slice
  obtain ⟨a2, c2, rfl⟩ := hl.slice
  have hll := hl.len
  obtain ⟨cap, hcap⟩ : ∃ cap : Nat, cap = min (4096 - n.length) l.length := ⟨_, rfl⟩
  have hcap4 : cap ≤ 4096 := by omega
  have ts : IntKind.i64.wrap ((4096 : Int) - (n.length : Int)) = (4096 : Int) - (n.length : Int) := by rw [IntKind.wrap_i64]; omega
  have HMK : Hid (∀ (x : Int) (z : World), x = (cap : Int) → (Instr.makeChan 46 (.int .i64 x)).run Try.prog z = .ok (.chan (some z.heap.size)) (z.alloc (.chan cap #[] false 0 0 false))) := fun x z hx => by subst hx; exact mk_room z cap hcap4
  have HB := Lib.hid ((((Below.refl _ w).alloc (Nat.le_refl _) (.cells #[.slice a n.length c] 24))).alloc (by simp) (.cells #[.slice none 0 0] 24))
  have HCAP := Lib.hid hcap
  have HNN := Lib.hid hn
  have HLN := Lib.hid hl
  clear hn hl
  clear hcap
  by_cases hle : (l.length : Int) < (4096 : Int) - (n.length : Int)
  all_goals
    first
    | (have hmk := fun z => HMK.out (l.length : Int) z (by rw [HCAP.out]; omega)
       have hle2 : (l.length : Int) ≤ (4096 : Int) - (n.length : Int) := by omega
       have hle3 : decide ((l.length : Int) < (4096 : Int) - (n.length : Int)) = true := by simpa using hle)
    | (have hmk := fun z => HMK.out ((4096 : Int) - (n.length : Int)) z (by rw [HCAP.out]; omega)
       have hle3 : decide ((l.length : Int) < (4096 : Int) - (n.length : Int)) = false := by simpa using hle)
    refine Cm.calls Try.func8 rfl ?_
    simp only [Try.ntmps8, List.size_toArray, List.length_cons, List.length_nil, Nat.reduceAdd, Nat.reduceSub, Array.replicate_succ, Array.replicate_zero, List.push_toArray, List.append_toArray, List.nil_append, List.cons_append]
    refine Cm.seq_wp fun K hK => ?_
    go_wp2
    refine Cm.scope ?_
    refine Cm.seq_wp fun K hK => ?_
    go_wp2_with (go_at_call 18; go_loud ((with_reducible refine (HX.out _ HB.out).mono ?_); rintro e w1 ⟨rfl, hb⟩; have HB1 := Lib.hid (HB.out.trans (hb.mono HB.out.size)); have HB11 := Lib.hid hb; have h0 : w1.cell? ⟨w.heap.size, 0, none⟩ = some (.slice a n.length c) := (hb.cell (p := ⟨w.heap.size, 0, none⟩) (by show w.heap.size < _; simp; omega)).trans (cell_old _ (cell_new w _ _)); have h1 : w1.cell? ⟨w.heap.size + 1, 0, none⟩ = some (.slice none 0 0) := (hb.cell (p := ⟨w.heap.size + 1, 0, none⟩) (by show w.heap.size + 1 < _; simp)).trans (by have := cell_new (w.alloc (.cells #[.slice a n.length c] 24)) (.slice none 0 0) 24; rw [World.size_alloc] at this; exact this); clear hb))
    go_wp2
    refine Cm.seq_wp fun K hK => ?_
    go_wp2
    clear hmk hle hle3 ts HMK
    try clear hle2
    refine Cm.seq_k fun K hK => Cm.of_wp (wp_label ?_)
    refine hK _ _ ?_
    clear hK K
    refine Cm.seq_k fun K hK => ?_
    refine Cm.seq_wp fun K2 hK2 => ?_
    go_wp2
    clear hcap4
    obtain ⟨C, hC⟩ : ∃ C, C = w1.heap.size := ⟨_, rfl⟩
    have HS0 : Hid (StS w (.slice a n.length c) C cap [] false (w1.alloc (.chan cap #[] false 0 0 false))) := by
      subst hC
      have hz : w.heap.size + 2 ≤ w1.heap.size := by have := HB11.out.size; simp at this; omega
      exact ⟨HB1.out.alloc HB1.out.size _, ⟨0, 0, heap_alloc_new _ _⟩, hz, cell_old _ h0, cell_old _ h1, (World.frozen?_of_block (by show (w1.alloc _).heap[w.heap.size + 1]? = w1.heap[w.heap.size + 1]?; exact Below.heap_alloc _ _ _ (by omega))).trans ((HB11.out.frozen (by show w.heap.size + 1 < _; simp)).trans (by rw [World.frozen?_of_block (w := (w.alloc (.cells #[.slice a n.length c] 24)).alloc (.cells #[.slice none 0 0] 24)) rfl]; exact frozen_of_row _ _ 0 #[.slice none 0 0] 24 (by have := heap_alloc_new (w.alloc (.cells #[.slice a n.length c] 24)) (.cells #[.slice none 0 0] 24); rw [World.size_alloc] at this; exact this)))⟩
    rw [← hC]
    clear h0 h1 HB1 HB11 hC HX HB
    generalize w1.alloc (.chan cap #[] false 0 0 false) = w2 at *
    clear w1
    have HT : Hid (∀ (u10 u25 u30 u31 u32 u33 u34 u35 u36 u37 u38 u39 u40 u41 u29 : Value) (wx : World), StS w (.slice a n.length c) C cap (sent n l) false wx → K ⟨#[.agg #[.slice a n.length c], .slice a2 l.length c2, .pointer (some ⟨w.heap.size, 0, none⟩), undef, .pointer (some ⟨w.heap.size + 1, 0, none⟩), .int .i64 0, .int .i64 0, .int .i64 0, .chan (some C), undef, u10, undef, undef, .agg #[.slice a n.length c], .int .i64 0, .int .i64 0, .bool false, undef, undef, .pointer (some ⟨w.heap.size, 0, none⟩), .slice a n.length c, .int .i64 n.length, .int .i64 (4096 - (n.length : Int)), .slice a2 l.length c2, .int .i64 l.length, u25, .chan (some C), .slice a2 l.length c2, .int .i64 l.length, u29, u30, u31, u32, u33, u34, u35, u36, u37, u38, u39, u40, u41, undef, undef, undef, undef, undef, undef, undef, undef, undef, undef, undef, undef, undef, undef, undef, undef, undef, undef, undef, undef], []⟩ wx) := by
      intro u10 u25 u30 u31 u32 u33 u34 u35 u36 u37 u38 u39 u40 u41 u29 wx HSx
      have HS := Lib.hid HSx
      refine hK _ _ ?_
      clear hK K HS0
      have HSL : Hid ((sent n l).length ≤ 4096 - n.length) := by unfold sent; exact List.length_take_le _ _
      obtain ⟨S, hSd⟩ : ∃ S, S = sent n l := ⟨_, rfl⟩
      rw [← hSd] at HS HSx HSL
      have HSD := Lib.hid hSd
      clear hSd
      obtain ⟨s0, r0, hch⟩ := HSx.ch
      have hcl : ∀ ats ty, (Builtin.close_ ats ty #[.chan (some C)]).run Try.prog wx = .ok (.tuple #[]) (wx.setChan C cap (S.map pkV).toArray true s0 r0 false) := fun ats ty => Go.run_close_open ats ty hch
      have HS2 := Lib.hid (StS.set (S' := S) (cl' := true) s0 r0 HSx)
      clear hch HSx
      refine Cm.seq_wp fun K hK => ?_
      go_wp2
      clear hcl
      generalize wx.setChan C cap (S.map pkV).toArray true s0 r0 false = wy at *
      have y0 := HS2.out.c0
      have HCL := Lib.hid (clone_own (.slice a n.length c) n wy (HNN.out.on HS2.out.be))
      refine Cm.seq_wp fun K hK => ?_
      go_wp2_with (go_at_call 22; go_loud ((with_reducible refine HCL.out.mono ?_); rintro e w3 ⟨v3, rfl, ho, hb⟩; have HS3 := Lib.hid (HS2.out.go hb); have HO3 : Hid (OwnP w3 (C + 1) v3 n) := Own.le ho HS2.out.lt; clear ho hb))
      go_wp2
      refine Cm.seq_k fun K hK => ?_
      refine Cm.seq_wp fun K2 hK2 => ?_
      go_wp2
      clear y0 HCL HS2
      refine Cm.block ?_
      refine Cm.loop (fun gg act wx => ∃ (D R : List Pk) (v3 u12 u45 u47 u48 u49 u50 u51 u52 u53 : Value), R.length = gg ∧ act = ⟨#[.agg #[.slice a n.length c], .slice a2 l.length c2, .pointer (some ⟨w.heap.size, 0, none⟩), undef, .pointer (some ⟨w.heap.size + 1, 0, none⟩), .int .i64 0, .int .i64 0, .int .i64 0, .chan (some C), undef, u10, v3, u12, .agg #[.slice a n.length c], .int .i64 0, .int .i64 0, .bool false, undef, undef, .pointer (some ⟨w.heap.size, 0, none⟩), .slice a n.length c, .int .i64 n.length, .int .i64 (4096 - (n.length : Int)), .slice a2 l.length c2, .int .i64 l.length, u25, .chan (some C), .slice a2 l.length c2, .int .i64 l.length, u29, u30, u31, u32, u33, u34, u35, u36, u37, u38, u39, u40, u41, .chan (some C), .pointer (some ⟨w.heap.size, 0, none⟩), .slice a n.length c, u45, .chan (some C), u47, u48, u49, u50, u51, u52, u53, undef, undef, undef, undef, undef, undef, undef, undef], []⟩ ∧ StS w (.slice a n.length c) C cap R true wx ∧ S = D ++ R ∧ OwnP wx (C + 1) v3 (n ++ D)) S.length ?_ ?_
      · exact ⟨[], S, v3, _, _, _, _, _, _, _, _, _, rfl, rfl, HS3.out, rfl, by rw [List.append_nil]; exact HO3.out⟩
      clear HO3 HS3
      intro gk a3 wr hI J hJ
      obtain ⟨D, R, v3, u12, u45, u47, u48, u49, u50, u51, u52, u53, hRg, rfl, HSa, hSR, HOa⟩ := hI
      have HS := Lib.hid HSa
      have HO := Lib.hid HOa
      obtain ⟨s1, r1, hch⟩ := HSa.ch
      have hlo := HSa.lo
      clear HSa HOa
      refine Cm.seq_k fun K2 hK2 => ?_
      cases R with
      | nil =>
        obtain ⟨a3, c3, rfl⟩ := HO.out.slice
        rw [List.append_nil] at hSR
        subst hSR
        have hz0 := HS.out.c0
        have hz1 := HS.out.c1
        have hf1 := HS.out.f1
        have HW : Hid (((n ++ S).length : Int) - (n.length : Int) = (S.length : Int)) := by show _ = _; rw [List.length_append]; omega
        have HSL1 := HSL.out
        have hlenq : (n ++ S).length ≤ 4096 := by rw [List.length_append]; omega
        have ts : IntKind.i64.wrap (((n ++ S).length : Int) - (n.length : Int)) = ((n ++ S).length : Int) - (n.length : Int) := by rw [IntKind.wrap_i64]; omega
        refine Cm.recv_none rfl rfl Try.underlying46 rfl (zero_pk _) hch ?_
        have HLQ := Lib.hid hlenq
        have HOQ : Hid (OwnP wr (C + 1) (.slice a3 (n ++ S).length c3) (n ++ S)) := HO.out
        clear hlenq HO HSL HSL1 HCAP HNN HLN hch
        generalize (n ++ S).length = q at *
        go_wp2
        refine Cm.seq_wp fun K3 hK3 => ?_
        go_wp2
        refine Cm.of_wp ?_
        go_wp2
        go_region
        all_goals go_wp2
        all_goals rw [Exit.noGoto_ret]
        all_goals refine bodyPost_net3 (u := 5) (x := 6) rfl (w.heap.size + 1) (.slice a3 q c3) rfl rfl ?_ ?_
        · exact World.cell?_setCell_same _ _ _ hz1
        · refine ⟨.slice a3 q c3, ?_, ?_, ?_⟩
          · rw [← HSD.out, ← HW.out]
            rfl
          · rw [← HSD.out]
            exact (Own.le (ownsRow_setCell_below HOQ.out (a := ⟨w.heap.size + 1, 0, none⟩) (by show w.heap.size + 1 < C + 1; omega) _) (by omega) : Own _ w.heap.size _ _ _)
          · exact (HS.out.be.setCell (by show w.heap.size ≤ w.heap.size + 1; omega) _).drew
      | cons x R =>
        refine Cm.recv_some (u := pkV x) (us := (R.map pkV).toArray) rfl rfl Try.underlying46 rfl (zero_pk _) hch rfl (ext1 _ R) ?_
        have HS4 := Lib.hid (StS.set (S' := R) (cl' := true) s1 (r1 + 1) HS.out)
        have HO4 := Lib.hid (Cm.own_set (cap' := cap) (s' := s1) (r' := r1 + 1) (buf' := (R.map pkV).toArray) (closed' := true) (tm' := false) HO.out hch)
        clear hch HS HO
        generalize wr.setChan C cap (R.map pkV).toArray true s1 (r1 + 1) false = wy at *
        rcases x with ⟨xf, xt, xd⟩
        have HX1 : Hid (pkV ⟨xf, xt, xd⟩ = .agg #[.int .i64 xf, .int .i64 xt, .string xd]) := rfl
        rw [HX1.out]
        go_wp2
        refine Cm.seq_wp fun K3 hK3 => ?_
        go_wp2
        refine Cm.of_wp ?_
        obtain ⟨i0, hi, hq0, hq1, hq2⟩ := info_parts info_pk
        have hbx : Below wy.heap.size wy ((wy.alloc (.cells #[.int .i64 xf, .int .i64 xt, .string xd] 30)).alloc (.cells #[.int .i64 xf, .int .i64 xt, .string xd] 30)) := (al wy _).alloc (by simp) _
        have HO5 := Lib.hid (Own.keep HO4.out hbx)
        have HS5 := Lib.hid (HS4.out.go hbx)
        have HN5 : Hid (∀ j u, ([.int .i64 xf, .int .i64 xt, .string xd] : List Value)[j]? = some u → ((wy.alloc (.cells #[.int .i64 xf, .int .i64 xt, .string xd] 30)).alloc (.cells #[.int .i64 xf, .int .i64 xt, .string xd] 30)).cell? ((⟨wy.heap.size + 1, 0, none⟩ : Addr).add j) = some u) := by
          have := one_new (wy.alloc (.cells #[.int .i64 xf, .int .i64 xt, .string xd] 30)) xf xt xd
          rw [World.size_alloc] at this
          exact this
        have H1 := Lib.hid (one_ok xf xt xd)
        have hdl : D.length + (R.length + 1) = S.length := by rw [hSR, List.length_append, List.length_cons]
        have hln : (n ++ D).length + 1 ≤ 4096 := by have := HSL.out; rw [List.length_append]; omega
        have HLN1 := Lib.hid hln
        have HMX : Hid ((n ++ D).length + 1 ≤ maxLen) := by show _ ≤ _; unfold maxLen; have := HLN1.out; omega
        have HBY : Hid (((n ++ D).length + 1) * 32 ≤ 140737488355328) := by show _ ≤ _; have := HLN1.out; omega
        have HSZ : Hid (C + 1 ≤ ((wy.alloc (.cells #[.int .i64 xf, .int .i64 xt, .string xd] 30)).alloc (.cells #[.int .i64 xf, .int .i64 xt, .string xd] 30)).heap.size) := by show _ ≤ _; have := HS5.out.lt; omega
        have HSR := Lib.hid hSR
        have HSN : Hid (∀ (w5 : World) (v4 : Value), w5.ownsRow (C + 1) 30 3 v4 ((n ++ D).length + 1) (flat (n ++ D) ++ [.int .i64 xf, .int .i64 xt, .string xd]) → OwnP w5 (C + 1) v4 (n ++ (D ++ [⟨xf, xt, xd⟩]))) := fun w5 v4 h => by
          rw [← List.append_assoc]
          exact Own.snoc (x := (⟨xf, xt, xd⟩ : Pk)) h
        have HOL := Lib.hid (HO5.out.lt)
        clear hln hdl hSR HX1 hbx HO4 HS4
        go_wp2_with (at_builtin; (refine wpList_append_own_at _ rfl _ _ 22 rfl (C + 1) 30 i0 _ 3 32 Try.underlying22 hi hq0 hq1 hq2 rfl (by omega) _ _ _ rfl HO5.out ⟨wy.heap.size + 1, 0, none⟩ 1 1 [.int .i64 xf, .int .i64 xt, .string xd] rfl rfl HN5.out H1.out HMX.out HBY.out HSZ.out ?_); intro v4 w5 hown hg5 hnil hob; have HO6 := Lib.hid (HSN.out _ _ hown); have HS6 := Lib.hid (HS5.out.grown hg5 (fun g hg => (HOL.out g hg).1)); clear hown hg5 hnil hob)
        go_wp2
        refine hJ R.length _ _ (by rw [← hRg]; exact Nat.lt_succ_self _) ⟨D ++ [⟨xf, xt, xd⟩], R, v4, _, _, _, _, _, _, _, _, _, rfl, rfl, HS6.out, by rw [HSR.out, List.append_assoc]; rfl, HO6.out⟩
    clear hK
    refine Cm.block ?_
    refine Cm.loop (fun gg act wx => ∃ (k : Nat) (S : List Pk) (zi : Int) (u10 u25 u30 u31 u32 u33 u34 u35 u36 u37 u38 u39 u40 u41 : Value), k + gg = l.length ∧ zi = (k : Nat) ∧ act = ⟨#[.agg #[.slice a n.length c], .slice a2 l.length c2, .pointer (some ⟨w.heap.size, 0, none⟩), undef, .pointer (some ⟨w.heap.size + 1, 0, none⟩), .int .i64 0, .int .i64 0, .int .i64 0, .chan (some C), undef, u10, undef, undef, .agg #[.slice a n.length c], .int .i64 0, .int .i64 0, .bool false, undef, undef, .pointer (some ⟨w.heap.size, 0, none⟩), .slice a n.length c, .int .i64 n.length, .int .i64 (4096 - (n.length : Int)), .slice a2 l.length c2, .int .i64 l.length, u25, .chan (some C), .slice a2 l.length c2, .int .i64 l.length, .int .i64 zi, u30, u31, u32, u33, u34, u35, u36, u37, u38, u39, u40, u41, undef, undef, undef, undef, undef, undef, undef, undef, undef, undef, undef, undef, undef, undef, undef, undef, undef, undef, undef, undef], []⟩ ∧ StS w (.slice a n.length c) C cap S false wx ∧ S = (l.take k).filter rightB ∧ S.length ≤ cap) l.length ?_ ?_
    · exact ⟨0, [], 0, _, _, _, _, _, _, _, _, _, _, _, _, _, _, by omega, rfl, rfl, HS0.out, rfl, Nat.zero_le _⟩
    clear HS0
    intro gk a3 wr hI J hJ
    obtain ⟨k, S, zi, u10, u25, u30, u31, u32, u33, u34, u35, u36, u37, u38, u39, u40, u41, hkg, rfl, rfl, HSa, hS, hSl⟩ := hI
    have HS := Lib.hid HSa
    have HSl := Lib.hid hSl
    have HSe := Lib.hid hS
    clear hSl hS
    by_cases hlt : k < l.length
    · obtain ⟨s1, r1, hch⟩ := HSa.ch
      clear HSa
      have hlt2 : (k : Int) < (l.length : Int) := by omega
      obtain ⟨a9, c9, he, -, -, -, hcc⟩ := HLN.out
      simp only [Value.slice.injEq, true_and] at he
      obtain ⟨rfl, rfl⟩ := he
      obtain ⟨b, off, rfl, hA, hb, hcell⟩ := hcc (by omega)
      obtain ⟨x0, x1, x2⟩ := at_pk ((hcell k hlt).keep HS.out.be hb)
      have x0 : wr.cell? ⟨b, off + k * 3, none⟩ = some (.int .i64 l[k].f) := x0
      have x1 : wr.cell? ⟨b, off + k * 3 + 1, none⟩ = some (.int .i64 l[k].t) := x1
      have x2 : wr.cell? ⟨b, off + k * 3 + 2, none⟩ = some (.string l[k].d) := x2
      have HM := Lib.hid (filt_at l k hlt)
      have HW := Lib.hid (fun z => right_own l[k] z)
      have tk : IntKind.i64.wrap ((k : Int) + 1) = (k : Int) + 1 := by rw [IntKind.wrap_i64]; omega
      clear hcell hcc
      generalize l[k] = x at *
      rcases x with ⟨f, t, d⟩
      dsimp only at x0 x1 x2 HW
      have HWX := Lib.hid (al wr (.cells #[.int .i64 f, .int .i64 t, .string d] 30))
      have hq0 : wr.heap.size < (wr.alloc (.cells #[.int .i64 f, .int .i64 t, .string d] 30)).heap.size := by simp
      have HQ0 := Lib.hid hq0
      have hn0 := (at_pk (at_new wr (⟨f, t, d⟩ : Pk) 30))
      have HN0 := Lib.hid hn0
      clear hn0 hq0
      cases hqq : rightB ⟨f, t, d⟩
      · rw [hqq] at HW HM
        have HE : Hid ((l.take (k + 1)).filter rightB = S) := HM.out.trans (by rw [HSe.out]; exact List.append_nil _)
        clear hqq HM HN0
        refine Cm.seq_wp fun K2 hK2 => ?_
        go_wp2
        refine Cm.seq_wp fun K3 hK3 => ?_
        go_wp2
        refine Cm.seq_k fun K4 hK4 => ?_
        refine Cm.block ?_
        refine Cm.seq_wp fun K5 hK5 => ?_
        go_wp2
        refine Cm.seq_wp fun K6 hK6 => ?_
        go_wp2_with (go_at_call 21; go_loud ((with_reducible refine (HW.out _).mono ?_); rintro e w4 ⟨rfl, hb4⟩; have HS4 := Lib.hid ((HS.out.go HWX.out).go hb4); clear hb4))
        go_wp2
        refine Cm.of_wp ?_
        go_wp2
        refine hJ (gk - 1) _ _ (by omega) ⟨k + 1, S, (k : Int) + 1, _, _, _, _, _, _, _, _, _, _, _, _, _, _, by omega, by omega, rfl, HS4.out, HE.out.symm, HSl.out⟩
      · rw [hqq] at HW HM
        have HE : Hid ((l.take (k + 1)).filter rightB = S ++ [⟨f, t, d⟩]) := HM.out.trans (by rw [HSe.out]; rfl)
        clear hqq HM
        refine Cm.seq_wp fun K2 hK2 => ?_
        go_wp2
        refine Cm.seq_wp fun K3 hK3 => ?_
        go_wp2
        refine Cm.seq_k fun K4 hK4 => ?_
        refine Cm.block ?_
        refine Cm.seq_wp fun K5 hK5 => ?_
        go_wp2
        refine Cm.seq_wp fun K6 hK6 => ?_
        go_wp2_with (go_at_call 21; go_loud ((with_reducible refine (HW.out _).mono ?_); rintro e w4 ⟨rfl, hb4⟩; have HS4 := Lib.hid ((HS.out.go HWX.out).go hb4); have y0 := (hb4.cell (p := ⟨wr.heap.size, 0, none⟩) HQ0.out).trans HN0.out.1; have y1 := (hb4.cell (p := ⟨wr.heap.size, 0 + 1, none⟩) HQ0.out).trans HN0.out.2.1; have y2 := (hb4.cell (p := ⟨wr.heap.size, 0 + 2, none⟩) HQ0.out).trans HN0.out.2.2; rw [Nat.zero_add] at y1 y2; clear hb4))
        go_wp2
        refine Cm.seq_wp fun K7 hK7 => ?_
        go_wp2
        clear y0 y1 y2 x0 x1 x2 hch
        obtain ⟨s2, r2, hch⟩ := HS4.out.ch
        refine Cm.seq_k fun K8 hK8 => ?_
        by_cases hr : S.length < cap
        · have HS5 := Lib.hid (StS.set (S' := S ++ [⟨f, t, d⟩]) (cl' := false) (s2 + 1) r2 HS4.out)
          rw [← push_pk] at HS5
          have hr2 : (S.map pkV).toArray.size < cap := by rw [chan_size]; exact hr
          refine Cm.select_send (u := .agg #[.int .i64 f, .int .i64 t, .string d]) rfl rfl rfl rfl (zero_pk _) hch hr2 ?_
          clear hch hr2
          generalize w4.setChan C cap ((S.map pkV).toArray.push (.agg #[.int .i64 f, .int .i64 t, .string d])) false (s2 + 1) r2 false = w5 at *
          go_wp2
          refine Cm.of_wp ?_
          go_wp2
          refine Cm.of_wp ?_
          go_wp2
          refine hJ (gk - 1) _ _ (by omega) ⟨k + 1, S ++ [⟨f, t, d⟩], (k : Int) + 1, _, _, _, _, _, _, _, _, _, _, _, _, _, _, by omega, by omega, rfl, HS5.out, HE.out.symm, by rw [List.length_append]; exact hr⟩
        · have hr2 : cap ≤ (S.map pkV).toArray.size := by rw [chan_size]; omega
          have hsl : S.length ≤ k := by
            rw [HSe.out]
            exact Nat.le_trans (List.length_filter_le _ _) (List.length_take_le _ _)
          have hfull : S = sent n l := by
            have h7 := HCAP.out
            have h8 := HSl.out
            rw [HSe.out]
            refine (sent_full k ?_).symm
            rw [← HSe.out]
            omega
          rw [hfull] at HS4
          refine Cm.select_full rfl rfl rfl rfl (zero_pk _) hch hr2 ?_
          clear hch hr2 hfull
          go_wp2
          refine Cm.of_wp ?_
          go_wp2
          refine HT.out _ _ _ _ _ _ _ _ _ _ _ _ _ _ _ _ HS4.out
    · have hkl : k = l.length := by omega
      have hlt2 : ¬ ((k : Int) < (l.length : Int)) := by omega
      have hlt3 : decide ((k : Int) < (l.length : Int)) = false := by simpa using hlt2
      have hS2 : S = sent n l := by
        have h7 := HCAP.out
        have h8 := HSl.out
        have h9 := HSe.out
        rw [hkl, List.take_length] at h9
        rw [h9] at h8 ⊢
        exact (sent_end (by omega)).symm
      have hlt4 : (l.length : Int) ≤ (k : Int) := by omega
      clear HSa hlt hkl
      rw [hS2] at HS
      clear hS2
      refine Cm.seq_wp fun K2 hK2 => ?_
      go_wp2
      refine Cm.seq_wp fun K3 hK3 => ?_
      go_wp2
      refine HT.out _ _ _ _ _ _ _ _ _ _ _ _ _ _ _ _ HS.out
end Nt
end Go.Proofs.Ytejolapbdkkdaaa
