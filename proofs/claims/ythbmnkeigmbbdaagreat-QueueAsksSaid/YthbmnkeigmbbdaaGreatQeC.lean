/-
  Merged: Comm, CommQ.
-/
import Derived.Test.YthbmnkeigmbbdaaGreatRowG
import Derived.Conc.LoneSelect
import Derived.Scope
/-
  CHANNELS OF ONE GOROUTINE WITHIN THE WALK: 'wpN': as Code.wp, of frames of ordinary calls alone; a region that begins with a send in a select, or with a receive.
-/
namespace Go.Proofs.YthbmnkeigmbbdaaGreat
open Go.RowKit Go.Lib Go.Conc
namespace Cm
set_option linter.unusedVariables false
/-- As Code.wp, but of ordinary frames. -/
def wpN (P : Program) (c : Code) (Q : Exit → Act → World → Prop) (a : Act) (w : World) : Prop :=
  ∀ (b : Frame) (k : List Item) (cs : List Frame), b.kind = .normal → ∃ e a' w', Q e a' w' ∧ Arrives P (lone (b.at a (.code c :: k)) cs w) b k cs e a' w'
section
variable {P : Program} {Q : Exit → Act → World → Prop} {a : Act} {w : World}
theorem of_wp {c : Code} (h : c.wp P Q a w) : wpN P c Q a w := fun b k cs _ => h b k cs
theorem mono {c : Code} {Q' : Exit → Act → World → Prop} (h : wpN P c Q a w) (hq : ∀ e a w, Q e a w → Q' e a w) : wpN P c Q' a w :=
  fun b k cs hb => let ⟨e, a', w', q, r⟩ := h b k cs hb; ⟨e, a', w', hq _ _ _ q, r⟩
theorem seq {x y : Code} (h : wpN P x (Exit.then (wpN P y Q) Q) a w) : wpN P (Code.seq x y) Q a w := by
  intro b k cs hb
  obtain ⟨e, a₁, w₁, hq, harr⟩ := h b (.code y :: k) cs hb
  cases e with
  | normal =>
    obtain ⟨e₂, a₂, w₂, hq₂, harr₂⟩ := hq b k cs hb
    exact ⟨e₂, a₂, w₂, hq₂, .of_steps (.head step_seq harr) harr₂⟩
  | exit id => exact ⟨_, a₁, w₁, hq, .of_steps (.one step_seq) (.pass (x := .code y) rfl (fun _ _ => .inl (by simp)) harr)⟩
  | goto l => exact ⟨_, a₁, w₁, hq, .of_steps (.one step_seq) (.pass (x := .code y) rfl (fun _ _ => .inl (by simp)) harr)⟩
  | ret => exact ⟨_, a₁, w₁, hq, .of_steps (.one step_seq) (.pass (x := .code y) rfl (fun _ _ => .inl (by simp)) harr)⟩
  | panic ch => exact ⟨_, a₁, w₁, hq, .of_steps (.one step_seq) (.pass (x := .code y) rfl (fun _ _ => .inl (by simp)) harr)⟩
  | outgrown => exact ⟨_, a₁, w₁, hq, .of_steps (.one step_seq) (.pass (x := .code y) rfl (fun _ _ => .inl (by simp)) harr)⟩
theorem seq_k {x y : Code} (h : ∀ K : Act → World → Prop, (∀ a w, wpN P y Q a w → K a w) → wpN P x (Exit.then K Q) a w) : wpN P (Code.seq x y) Q a w := seq (h _ fun _ _ h => h)
/-- x holds no channel: it is walked as ever. -/
theorem seq_wp {x y : Code} (h : ∀ K : Act → World → Prop, (∀ a w, wpN P y Q a w → K a w) → x.wp P (Exit.then K Q) a w) : wpN P (Code.seq x y) Q a w := seq_k fun K hK => of_wp (h K hK)
theorem cond {c : Operand} {x y : Code} {t : Bool} (hc : a.eval c = .bool t) (h : wpN P (if t then x else y) Q a w) : wpN P (Code.cond c x y) Q a w :=
  fun b k cs hb => let ⟨e, a', w', q, r⟩ := h b k cs hb; ⟨e, a', w', q, .of_steps (.one (step_cond hc)) r⟩
theorem cond_true {c : Operand} {x y : Code} (hc : a.eval c = .bool true) (h : wpN P x Q a w) : wpN P (Code.cond c x y) Q a w := cond hc h
theorem cond_false {c : Operand} {x y : Code} (hc : a.eval c = .bool false) (h : wpN P y Q a w) : wpN P (Code.cond c x y) Q a w := cond hc h
theorem block {id : Nat} {c : Code} (h : wpN P c (Exit.inBlock id Q) a w) : wpN P (Code.block id c) Q a w := by
  intro b k cs hb
  obtain ⟨e, a₁, w₁, hq, harr⟩ := h b (.inBlock id :: k) cs hb
  cases e with
  | normal => exact ⟨.normal, a₁, w₁, hq, .head step_block (Steps.trans harr (.one step_inBlock))⟩
  | exit id' =>
    by_cases hid : id' = id
    · simp only [Exit.inBlock, hid, if_true] at hq
      exact ⟨.normal, a₁, w₁, hq, .head step_block (harr k (by simp [exitTo, hid]))⟩
    · simp only [Exit.inBlock, hid, if_false] at hq
      refine ⟨.exit id', a₁, w₁, hq, fun k' hk => .head step_block (harr k' ?_)⟩
      have : (id == id') = false := by simp; exact fun h => hid h.symm
      simp [exitTo, this, hk]
  | goto l => exact ⟨_, a₁, w₁, hq, fun k' hk => .head step_block (harr k' (by simp [gotoIn, hk]))⟩
  | ret => exact ⟨_, a₁, w₁, hq, .of_steps (.one step_block) harr⟩
  | panic ch => exact ⟨_, a₁, w₁, hq, .of_steps (.one step_block) harr⟩
  | outgrown => exact ⟨_, a₁, w₁, hq, .of_steps (b := b) (k := k) (cs := cs) (e := .outgrown) (.one step_block) harr⟩
/-- A loop: an invariant that bears a number, which every round lowers. -/
theorem loop {c : Code} (I : Nat → Act → World → Prop) (n₀ : Nat) (h₀ : I n₀ a w)
    (round : ∀ n a w, I n a w → ∀ J : Act → World → Prop, (∀ n' a' w', n' < n → I n' a' w' → J a' w') → wpN P c (Exit.then J Q) a w) : wpN P (Code.loop c) Q a w := by
  intro b k cs hb
  have key : ∀ n a w, I n a w → ∃ e a' w', Q e a' w' ∧ Arrives P (lone (b.at a (.code c :: .inLoop c :: k)) cs w) b k cs e a' w' := by
    intro n
    induction n using Nat.strongRecOn with
    | _ n ih =>
      intro a w hI
      obtain ⟨e, a₁, w₁, hq, harr⟩ := round n a w hI (fun a' w' => ∃ n', n' < n ∧ I n' a' w') (fun n' a' w' h1 h2 => ⟨n', h1, h2⟩) b (.inLoop c :: k) cs hb
      cases e with
      | normal =>
        obtain ⟨n', hlt, hI₁⟩ := hq
        obtain ⟨e₂, a₂, w₂, hq₂, harr₂⟩ := ih n' hlt a₁ w₁ hI₁
        exact ⟨e₂, a₂, w₂, hq₂, .of_steps (Steps.trans harr (.one step_inLoop)) harr₂⟩
      | exit id => exact ⟨_, a₁, w₁, hq, .pass (x := .inLoop c) rfl (fun _ _ => .inl (by simp)) harr⟩
      | goto l => exact ⟨_, a₁, w₁, hq, .pass (x := .inLoop c) rfl (fun _ _ => .inl (by simp)) harr⟩
      | ret => exact ⟨_, a₁, w₁, hq, .pass (x := .inLoop c) rfl (fun _ _ => .inl (by simp)) harr⟩
      | panic ch => exact ⟨_, a₁, w₁, hq, .pass (x := .inLoop c) rfl (fun _ _ => .inl (by simp)) harr⟩
      | outgrown => exact ⟨_, a₁, w₁, hq, .pass (x := .inLoop c) rfl (fun _ _ => .inl (by simp)) harr⟩
  obtain ⟨e, a', w', hq, harr⟩ := key n₀ a w h₀
  exact ⟨e, a', w', hq, .of_steps (.one step_loop) harr⟩
theorem scope {c : Code} (h : wpN P c (Exit.noGoto Q) a w) : wpN P (Code.scope c) Q a w := by
  intro b k cs hb
  obtain ⟨e, a₁, w₁, hq, harr⟩ := h b (.inScope c :: k) cs hb
  cases e with
  | normal => exact ⟨.normal, a₁, w₁, hq, .head step_scope (Steps.trans harr (.one step_inScope))⟩
  | exit id => exact ⟨.exit id, a₁, w₁, hq, fun k' hk => .head step_scope (harr k' (by simp [exitTo, hk]))⟩
  | goto l => exact hq.elim
  | ret => exact ⟨_, a₁, w₁, hq, .of_steps (.one step_scope) harr⟩
  | panic ch => exact ⟨_, a₁, w₁, hq, .of_steps (.one step_scope) harr⟩
  | outgrown => exact ⟨_, a₁, w₁, hq, .of_steps (.one step_scope) harr⟩
end
theorem calls {P : Program} {f : FuncId} {fn : Func} {c : Code} {args : Array Value} {w : World} {R : Ending → World → Prop}
    (hf : P.funcs[f]? = some fn) (hb : fn.body = some c)
    (h : wpN P c (bodyPost P fn R) { tmps := args ++ Array.replicate (fn.ntmps - args.size) undef, defers := [] } w) : Calls P f args w R := by
  intro cs
  let b : Frame := { (default : Frame) with fn := f, kind := .normal }
  have henter : Frame.enter P f args .normal = b.at { tmps := args ++ Array.replicate (fn.ntmps - args.size) undef, defers := [] } [.code c] := by
    simp [Frame.enter, Frame.at, hf, hb, b]
  obtain ⟨e, a', w', hq, harr⟩ := h b [] cs rfl
  rw [← henter] at harr
  cases e with
  | normal =>
    obtain ⟨hd, v, hr, hR⟩ := hq
    exact ⟨.returned v, w', _, hR, Steps.trans harr (.one step_end), rfl, rfl, hd, rfl, fn, hf, hr⟩
  | ret =>
    obtain ⟨hd, v, hr, hR⟩ := hq
    obtain ⟨todo, hs⟩ := harr
    exact ⟨.returned v, w', _, hR, hs, rfl, rfl, hd, rfl, fn, hf, hr⟩
  | panic chain =>
    obtain ⟨hd, hR⟩ := hq
    obtain ⟨todo, hs⟩ := harr
    exact ⟨.panicked chain, w', _, hR, hs, rfl, rfl, hd, fn, hf⟩
  | exit id => exact hq.elim
  | goto l => exact hq.elim
  | outgrown => exact ⟨.outgrown, w', b, hq, harr.resolve_left (by simp [b]), rfl, trivial⟩
section
variable {P : Program} {Q : Exit → Act → World → Prop} {a : Act} {w : World}
/-- The first operation's step is the machine's; the rest is walked as ever. -/
theorem region_first {id : Nat} {o : Oper} {rest : List Oper} {v : Value} {w' : World}
    (hs : ∀ (b : Frame) (k : List Item) (cs : List Frame) (l : List Nat), b.kind = .normal → step P (lone (b.at a (.inRegion (o :: rest).toArray (0 :: l) :: k)) cs w) = .next (lone ((b.at a (.inRegion (o :: rest).toArray (0 :: l) :: k)).finish v) cs w'))
    (h : wpList P (o :: rest).toArray Q rest (a.put o.dst v) w') : wpN P (Code.region id (o :: rest).toArray false) Q a w := by
  intro b k cs hb
  have h2 : wpOps P (o :: rest).toArray Q (List.range' 1 rest.length) (a.put o.dst v) w' := by
    rw [wpOps_eq_wpList rest 1 (fun j => by simp [Nat.add_comm 1 j])]
    exact h
  obtain ⟨e, a', w'', hq, harr⟩ := wp_ops _ _ _ h2 b k cs
  refine ⟨e, a', w'', hq, .of_steps (.head step_region (.one ?_)) harr⟩
  have e1 : List.range (o :: rest).toArray.size = 0 :: List.range' 1 rest.length := by
    rw [List.range_eq_range', List.size_toArray, List.length_cons, List.range'_succ]
  rw [e1, hs b k cs _ hb, Frame.finish_at]
  rfl
variable {o : Oper} {rest : List Oper} {id c cap s r : Nat} {buf : Array Value} {tm : Bool}
theorem first_wanted (hg : o.guard = none) : Region.wanted o (yielded (o :: rest).toArray a.tmps) = true := by simp [Region.wanted, hg]
end
/-! ### a channel's block -/
theorem chan_keep {w w' : World} {c : Nat} {x : Obj} (h : w.heap[c]? = some x) (hb : Below w.heap.size w w') : w'.heap[c]? = some x := (hb.block c (Array.getElem?_eq_some_iff.1 h).1).trans h
theorem chan_grown {w w' : World} {c cap s r : Nat} {buf : Array Value} {closed tm : Bool} {own : Option Nat} (h : w.heap[c]? = some (.chan cap buf closed s r tm)) (hg : w.grownBy w' own) (hn : own ≠ some c) : w'.heap[c]? = some (.chan cap buf closed s r tm) :=
  (hg.block c (Array.getElem?_eq_some_iff.1 h).1 (fun e => hn e.symm)).trans h
theorem not_chan {α : Type} [Rw.Flat α] {w : World} {base c cap s r : Nat} {buf : Array Value} {closed tm : Bool} {e : TypeId} {v : Value} {l : List α} (h : Rw.Own w base e v l) (hc : w.heap[c]? = some (.chan cap buf closed s r tm)) : v.ownBlock ≠ some c := by
  rcases h.2 with ⟨rfl, h0⟩ | ⟨g, cap, cur, rfl, hbg, hg, _⟩
  · intro e; cases e
  · intro e
    have e : some g = some c := e
    cases e
    rw [hg] at hc
    cases hc
theorem own_set {α : Type} [Rw.Flat α] {w : World} {base c cap cap' s s' r r' : Nat} {buf buf' : Array Value} {closed closed' tm tm' : Bool} {e : TypeId} {v : Value} {l : List α} (h : Rw.Own w base e v l) (hc : w.heap[c]? = some (.chan cap buf closed s r tm)) : Rw.Own (w.setChan c cap' buf' closed' s' r' tm') base e v l := by
  refine ⟨h.1, ?_⟩
  have hn := not_chan h hc
  rcases h.2 with h2 | ⟨g, cap, cur, rfl, h4, h5, h6⟩
  · exact .inl h2
  · refine .inr ⟨g, cap, cur, rfl, h4, ?_, h6⟩
    have : c ≠ g := fun e => hn (by rw [e]; rfl)
    simp only [World.setChan]
    rw [Array.getElem?_setIfInBounds_ne this]
    exact h5
end Cm
end Go.Proofs.YthbmnkeigmbbdaaGreat

/-
  CHANNELS WITHIN THE WALK, more of them: a send behind two plain operations of its region; a select of one receive with a default.
-/
namespace Go.Proofs.YthbmnkeigmbbdaaGreat
open Go.RowKit Go.Lib Go.Conc
namespace Cm
set_option linter.unusedVariables false
section
variable {P : Program} {Q : Exit → Act → World → Prop} {a : Act} {w : World}
/-- An operation that yields a value at once. -/
theorem step_plain {b : Frame} {k : List Item} {cs : List Frame} {ops : Array Oper} {i : Nat} {rest : List Nat} {o : Oper} {v : Value} {w' : World} (ho : ops[i]? = some o) (hg : o.guard = none) (hr : (execOp a.eval o).run P w = .ok (.value v) w') :
    step P (lone (b.at a (.inRegion ops (i :: rest) :: k)) cs w) = .next (lone (b.at (a.put o.dst v) (.inRegion ops rest :: k)) cs w') := by
  have hw : Region.wanted o (yielded ops a.tmps) = true := by simp [Region.wanted, hg]
  have hfin : (b.at a (.inRegion ops (i :: rest) :: k)).finish v = b.at (a.put o.dst v) (.inRegion ops rest :: k) := by
    rw [Frame.finish_at, ho]; rfl
  refine step_lone_go ?_
  rw [stepG_op ho hw, ← hfin]
  simp [stepG.apply, hr]
/-- Two plain operations, then one whose step is the machine's; the rest is walked as ever. -/
theorem region_third {id : Nat} {o1 o2 o : Oper} {rest : List Oper} {v1 v2 v : Value} {w' : World} (g1 : o1.guard = none) (g2 : o2.guard = none)
    (r1 : (execOp a.eval o1).run P w = .ok (.value v1) w) (r2 : (execOp (a.put o1.dst v1).eval o2).run P w = .ok (.value v2) w)
    (hs : ∀ (b : Frame) (k : List Item) (cs : List Frame) (l : List Nat), b.kind = .normal → step P (lone (b.at ((a.put o1.dst v1).put o2.dst v2) (.inRegion (o1 :: o2 :: o :: rest).toArray (2 :: l) :: k)) cs w) = .next (lone ((b.at ((a.put o1.dst v1).put o2.dst v2) (.inRegion (o1 :: o2 :: o :: rest).toArray (2 :: l) :: k)).finish v) cs w'))
    (h : wpList P (o1 :: o2 :: o :: rest).toArray Q rest (((a.put o1.dst v1).put o2.dst v2).put o.dst v) w') : wpN P (Code.region id (o1 :: o2 :: o :: rest).toArray false) Q a w := by
  intro b k cs hb
  have h2 : wpOps P (o1 :: o2 :: o :: rest).toArray Q (List.range' 3 rest.length) (((a.put o1.dst v1).put o2.dst v2).put o.dst v) w' := by
    rw [wpOps_eq_wpList rest 3 (fun j => by simp [Nat.add_comm 3 j])]
    exact h
  obtain ⟨e, a', w'', hq, harr⟩ := wp_ops _ _ _ h2 b k cs
  have e1 : List.range (o1 :: o2 :: o :: rest).toArray.size = 0 :: 1 :: 2 :: List.range' 3 rest.length := by
    rw [List.range_eq_range', List.size_toArray, List.length_cons, List.length_cons, List.length_cons, List.range'_succ, List.range'_succ, List.range'_succ]
  refine ⟨e, a', w'', hq, .of_steps (.head step_region ?_) harr⟩
  rw [e1]
  refine .head (step_plain (o := o1) (by simp) g1 r1) (.head (step_plain (o := o2) (by simp) g2 r2) (.one ?_))
  rw [hs b k cs _ hb, Frame.finish_at]
  rfl
variable {o o1 o2 : Oper} {rest : List Oper} {id c cap s r : Nat} {buf : Array Value} {tm : Bool}
theorem send_third {ch x : Operand} {v1 v2 u : Value} (g1 : o1.guard = none) (g2 : o2.guard = none) (hg : o.guard = none)
    (r1 : (execOp a.eval o1).run P w = .ok (.value v1) w) (r2 : (execOp (a.put o1.dst v1).eval o2).run P w = .ok (.value v2) w) (ho : o.op = .send ch x)
    (hch : ((a.put o1.dst v1).put o2.dst v2).eval ch = .chan (some c)) (hx : ((a.put o1.dst v1).put o2.dst v2).eval x = u) (hc : w.heap[c]? = some (.chan cap buf false s r tm)) (hroom : buf.size < cap)
    (h : wpList P (o1 :: o2 :: o :: rest).toArray Q rest (((a.put o1.dst v1).put o2.dst v2).put o.dst undef) (w.setChan c cap (buf.push u) false (s + 1) r tm)) : wpN P (Code.region id (o1 :: o2 :: o :: rest).toArray false) Q a w := by
  refine region_third g1 g2 r1 r2 (fun b k cs l hb => ?_) h
  rw [lone_eq_solo, lone_eq_solo]
  have hr : (execOp ((a.put o1.dst v1).put o2.dst v2).eval o).run P w = .ok (.comm #[scase c u (.tuple #[])] true .send) w := by simp [execOp, ho, hch, hx, scase]
  have hw : Region.wanted o (yielded (o1 :: o2 :: o :: rest).toArray ((a.put o1.dst v1).put o2.dst v2).tmps) = true := by simp [Region.wanted, hg]
  exact step_lone_send_room (stepG_comm (by simp) hw (by rw [hb]; decide) hr) hc hroom
theorem select_recv {ch : Operand} {T : TypeId} {closed : Bool} {u z : Value} {us : Array Value} (hg : o.guard = none) (ho : o.op = .select #[{ chan := ch, send := none, elem := T }] false)
    (hch : a.eval ch = .chan (some c)) (hz : (zeroValue T).run P w = .ok z w) (hc : w.heap[c]? = some (.chan cap buf closed s r tm)) (h0 : buf[0]? = some u) (hus : buf.extract 1 buf.size = us)
    (h : wpList P (o :: rest).toArray Q rest (a.put o.dst (.tuple #[goInt 0, .bool true, u])) (w.setChan c cap us closed s (r + 1) tm)) : wpN P (Code.region id (o :: rest).toArray false) Q a w := by
  refine region_first (fun b k cs l hb => ?_) h
  rw [lone_eq_solo, lone_eq_solo]
  have hr : (execOp a.eval o).run P w = .ok (.comm #[rcase c z] false .select) w := by simp [execOp, ho, hch, hz, rcase]
  have hp : 0 < buf.size := (Array.getElem?_eq_some_iff.1 h0).1
  have hs := step_lone_select_recv_buf (stepG_comm (b := b) (k := k) (cs := cs) (rest := l) (main := true) (ops := (o :: rest).toArray) (i := 0) (o := o) rfl (first_wanted hg) (by rw [hb]; decide) hr) hc hp
  rw [hus] at hs
  simp only [Array.getD_eq_getD_getElem?, h0, Option.getD_some] at hs
  exact hs
theorem select_empty {ch : Operand} {T : TypeId} {z : Value} (hg : o.guard = none) (ho : o.op = .select #[{ chan := ch, send := none, elem := T }] false)
    (hch : a.eval ch = .chan (some c)) (hz : (zeroValue T).run P w = .ok z w) (hc : w.heap[c]? = some (.chan cap #[] false s r tm))
    (h : wpList P (o :: rest).toArray Q rest (a.put o.dst (.tuple #[goInt (-1), .bool false, z])) w) : wpN P (Code.region id (o :: rest).toArray false) Q a w := by
  refine region_first (fun b k cs l hb => ?_) h
  rw [lone_eq_solo, lone_eq_solo]
  have hr : (execOp a.eval o).run P w = .ok (.comm #[rcase c z] false .select) w := by simp [execOp, ho, hch, hz, rcase]
  exact step_lone_select_default (stepG_comm rfl (first_wanted hg) (by rw [hb]; decide) hr) hc
end
end Cm
end Go.Proofs.YthbmnkeigmbbdaaGreat
