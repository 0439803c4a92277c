/-
  QuorumEnds.
-/
import Derived.Test.YtndihliagcgdeaaQuLaw3
import Derived.Test.YtndihliagcgdeaaQuArg
import Derived.Laws.AppendOwnNone
namespace Go.Proofs.Ytndihliagcgdeaa
open Go.RowKit Go.Lib Go.WideShapes Go.ChangeShapes
namespace Qu
open Lo
set_option linter.unusedVariables false
def bmp (x a : Nat) : Nat := if a < x then x else a
theorem bmp_ge (x a : Nat) : a ≤ bmp x a := by unfold bmp; split <;> omega
def bump (x : Nat) (p : Pe) : Pe := ⟨p.id, p.nx, bmp x p.ma⟩
theorem mat_bump (x : Nat) (m : Int) : ∀ l : List Pe, mat l m ≤ mat (l.map (bump x)) m
  | [] => Nat.le_refl _
  | p :: r => by
    show (if p.id = m then p.ma else mat r m) ≤ (if (bump x p).id = m then (bump x p).ma else mat (r.map (bump x)) m)
    by_cases h : p.id = m
    · rw [if_pos h, if_pos (show (bump x p).id = m from h)]
      exact bmp_ge _ _
    · rw [if_neg h, if_neg (show ¬ (bump x p).id = m from h)]
      exact mat_bump x m r
theorem set_bump (ks : List Int) (id : Int) (en x : Nat) (l : List Pe) : setB ks id en l ≤ setB ks id en (l.map (bump x)) := by
  cases h : rmB ks
  · rw [not_set h]
    exact Nat.zero_le _
  · rw [is_set h, is_set h]
    refine stl_mono ks (rm_pos h) (fun m _ => ?_)
    unfold upt
    split
    · exact Nat.le_refl _
    · exact mat_bump x m l
theorem mat_mem (m : Int) : ∀ l : List Pe, mat l m = 0 ∨ ∃ p ∈ l, p.ma = mat l m
  | [] => .inl rfl
  | p :: r => by
    show (if p.id = m then p.ma else mat r m) = 0 ∨ ∃ q ∈ p :: r, q.ma = (if p.id = m then p.ma else mat r m)
    by_cases h : p.id = m
    · rw [if_pos h]
      exact .inr ⟨p, by simp, rfl⟩
    · rw [if_neg h]
      rcases mat_mem m r with h | ⟨q, h1, h2⟩
      · exact .inl h
      · exact .inr ⟨q, by simp [h1], h2⟩
theorem set_ends (ks : List Int) (id : Int) (en : Nat) (l : List Pe) : setB ks id en l = en ∨ setB ks id en l = 0 ∨ ∃ p ∈ l, p.ma = setB ks id en l := by
  cases h : rmB ks
  · exact .inr (.inl (not_set h _ _ _))
  · rw [is_set h]
    rcases stl_is (upt id en l) ks ks 0 with e | ⟨m, -, e, -⟩
    · exact .inr (.inl e)
    · rw [e]
      unfold upt
      by_cases hm : m = id
      · rw [if_pos hm]; exact .inl rfl
      · rw [if_neg hm]; exact .inr (mat_mem m l)
def isO (n en : Nat) (l : List Pe) : Bool := (decide (n = en) || decide (n = 0)) || l.any (fun p => decide (p.ma = n))
theorem isO_true (ks : List Int) (id : Int) (en : Nat) (l : List Pe) : isO (setB ks id en l) en l = true := by
  unfold isO
  rcases set_ends ks id en l with h | h | ⟨p, h1, h2⟩
  · rw [decide_eq_true h]; rfl
  · rw [decide_eq_true h]; simp
  · have : l.any (fun p => decide (p.ma = setB ks id en l)) = true := List.any_eq_true.2 ⟨p, h1, decide_eq_true h2⟩
    rw [this]; simp
theorem isO_at (n en : Nat) (l : List Pe) (k : Nat) (h : k < l.length) : isO n en (l.take (k + 1)) = (isO n en (l.take k) || decide (l[k].ma = n)) := by
  unfold isO
  rw [List.take_succ_eq_append_getElem h, List.any_append]
  simp [Bool.or_assoc]
def flatP : List Pe → List Value
  | [] => []
  | p :: r => .int .i64 p.id :: .int .u64 (p.nx : Nat) :: .int .u64 (p.ma : Nat) :: flatP r
theorem flatP_len : ∀ l : List Pe, (flatP l).length = l.length * 3
  | [] => rfl
  | p :: r => by simp only [flatP, List.length_cons, flatP_len r]; omega
theorem flatP_at : ∀ (l : List Pe) (i : Nat) (h : i < l.length), (flatP l)[i * 3]? = some (.int .i64 l[i].id) ∧ (flatP l)[i * 3 + 1]? = some (.int .u64 (l[i].nx : Nat)) ∧ (flatP l)[i * 3 + 2]? = some (.int .u64 (l[i].ma : Nat))
  | [], i, h => absurd h (by simp)
  | p :: r, 0, h => ⟨rfl, rfl, rfl⟩
  | p :: r, i + 1, h => by
    have := flatP_at r i (by simpa using h)
    simp only [List.getElem_cons_succ]
    rw [show (i + 1) * 3 = i * 3 + 3 by omega]
    exact this
theorem flatP_one : ∀ l : List Pe, ∀ u ∈ flatP l, u.oneCell' = true
  | [], u, h => absurd h (by simp [flatP])
  | p :: r, u, h => by
    simp only [flatP, List.mem_cons] at h
    rcases h with rfl | rfl | rfl | h
    · rfl
    · rfl
    · rfl
    · exact flatP_one r u h
theorem flatP_cells {w : World} {A B : Nat} {a : Option Addr} {c : Nat} {l : List Pe} (h : PeR w A B (.slice a l.length c) l) (ad : Addr) (ha : a = some ad) : ∀ j u, (flatP l)[j]? = some u → w.cell? (ad.add j) = some u := by
  intro j u hj
  have hlt := (List.getElem?_eq_some_iff.1 hj).1
  rw [flatP_len] at hlt
  obtain ⟨a', c', e, -, -, hc⟩ := h
  simp only [Value.slice.injEq] at e
  obtain ⟨b, off, hab, -, -, hcell⟩ := hc (by omega)
  rw [← e.1, ha] at hab
  injection hab with hab
  subst hab
  rw [Addr.add_lit]
  obtain ⟨f0, f1, f2⟩ := flatP_at l (j / 3) (by omega)
  obtain ⟨c0, c1, c2⟩ := hcell (j / 3) (by omega)
  have hm : j % 3 = 0 ∨ j % 3 = 1 ∨ j % 3 = 2 := by omega
  rcases hm with hm | hm | hm
  · rw [show j = j / 3 * 3 by omega, f0] at hj
    rw [show off + j = off + j / 3 * 3 by omega, c0]
    exact hj
  · rw [show j = j / 3 * 3 + 1 by omega, f1] at hj
    rw [show off + j = off + j / 3 * 3 + 1 by omega, c1]
    exact hj
  · rw [show j = j / 3 * 3 + 2 by omega, f2] at hj
    rw [show off + j = off + j / 3 * 3 + 2 by omega, c2]
    exact hj
theorem info_peer : (Try.prog.info? 34).map (fun i => (i.zero, i.size, i.bytes)) = some (some (.agg #[.int .i64 0, .int .u64 0, .int .u64 0]), 3, 24) := by kernel_rfl
/-- The copy: of the first k the Match was raised to x. -/
structure RwX (w : World) (base g : Nat) (l : List Pe) (k x : Nat) : Prop where
  lo : base ≤ g
  lt : g < w.heap.size
  fz : ∀ j, w.frozen? ⟨g, j, none⟩ = false
  c0 : ∀ i (h : i < l.length), w.cell? ⟨g, i * 3, none⟩ = some (.int .i64 l[i].id)
  c1 : ∀ i (h : i < l.length), w.cell? ⟨g, i * 3 + 1, none⟩ = some (.int .u64 (l[i].nx : Nat))
  c2 : ∀ i (h : i < l.length), w.cell? ⟨g, i * 3 + 2, none⟩ = some (.int .u64 ((if i < k then bmp x l[i].ma else l[i].ma : Nat)))
def RX (w : World) (base : Nat) (a : Option Addr) (l : List Pe) (k x : Nat) : Prop := 0 < l.length → ∃ g, a = some ⟨g, 0, none⟩ ∧ RwX w base g l k x
theorem RwX.skip {w : World} {base g : Nat} {l : List Pe} {k x : Nat} (h : RwX w base g l k x) (hk : k < l.length) (hn : ¬ l[k].ma < x) : RwX w base g l (k + 1) x := by
  refine ⟨h.lo, h.lt, h.fz, h.c0, h.c1, fun i hi => ?_⟩
  rw [h.c2 i hi]
  by_cases e : i = k
  · subst e
    rw [if_neg (Nat.lt_irrefl _), if_pos (Nat.lt_succ_self _)]
    unfold bmp
    rw [if_neg hn]
  · by_cases e2 : i < k
    · rw [if_pos e2, if_pos (by omega)]
    · rw [if_neg e2, if_neg (by omega)]
theorem RwX.put {w : World} {base g : Nat} {l : List Pe} {k x : Nat} (h : RwX w base g l k x) (hk : k < l.length) (hn : l[k].ma < x) : RwX (w.setCell ⟨g, k * 3 + 2, none⟩ (.int .u64 (x : Nat))) base g l (k + 1) x := by
  have ne : ∀ j, j ≠ k * 3 + 2 → ∀ v, w.cell? ⟨g, j, none⟩ = some v → (w.setCell ⟨g, k * 3 + 2, none⟩ (.int .u64 (x : Nat))).cell? ⟨g, j, none⟩ = some v := fun j hj v hv =>
    (World.cell?_setCell_other _ _ _ _ (by intro e; simp only [Addr.mk.injEq, true_and, and_true] at e; exact hj (by omega))).trans hv
  refine ⟨h.lo, by rw [World.size_setCell]; exact h.lt, fun j => (World.frozen?_setCell _ _ _ _).trans (h.fz j), fun i hi => ne _ (by omega) _ (h.c0 i hi), fun i hi => ne _ (by omega) _ (h.c1 i hi), fun i hi => ?_⟩
  by_cases e : i = k
  · subst e
    rw [World.cell?_setCell_same _ _ _ (h.c2 i hi), if_pos (Nat.lt_succ_self _)]
    unfold bmp
    rw [if_pos hn]
  · rw [ne (i * 3 + 2) (by omega) _ (h.c2 i hi)]
    by_cases e2 : i < k
    · rw [if_pos e2, if_pos (by omega)]
    · rw [if_neg e2, if_neg (by omega)]
theorem RX.peers {w : World} {base : Nat} {a : Option Addr} {c : Nat} {l : List Pe} {x : Nat} (h : RX w base a l l.length x) (hl : l.length ≤ 8796093022208) (hp : ∀ p ∈ l, (-9223372036854775808 ≤ p.id ∧ p.id ≤ 9223372036854775807) ∧ Lt64 p.nx ∧ Lt64 p.ma) (hx : Lt64 x) : PeR w base w.heap.size (.slice a l.length c) (l.map (bump x)) := by
  refine ⟨a, c, by rw [List.length_map], by rw [List.length_map]; exact hl, fun p hm => ?_, fun h0 => ?_⟩
  · obtain ⟨q, hq, rfl⟩ := List.mem_map.1 hm
    obtain ⟨h1, h2, h3⟩ := hp q hq
    refine ⟨h1, h2, ?_⟩
    show Lt64 (bmp x q.ma)
    unfold bmp
    split
    · exact hx
    · exact h3
  · rw [List.length_map] at h0
    obtain ⟨g, rfl, hg⟩ := h h0
    refine ⟨g, 0, rfl, hg.lo, hg.lt, fun i hi => ?_⟩
    rw [List.length_map] at hi
    rw [List.getElem_map, Nat.zero_add]
    refine ⟨hg.c0 i hi, hg.c1 i hi, ?_⟩
    rw [hg.c2 i hi, if_pos hi]
    rfl
/-- Peers that came in, with what an append asks. -/
def PeC (w : World) (v : Value) (l : List Pe) : Prop := PeR w 0 w.heap.size v l ∧ (∃ a c, v = .slice a l.length c ∧ (a = none → c = 0)) ∧ l.length * 24 ≤ 140737488355328
set_option maxRecDepth 100000 in
theorem peersc_of {H : Type} {enc : TypeId × Value → H} {w : World} {v : Value} {d : DataW H} {ps : List MemPlace} {base : Nat}
    (ho : Value.okWide Try.prog w .any base 28 v) (hk : DataW.Trod enc Try.prog w 0 (fun _ => true) true 28 v d ps) (hw : ∀ n ∈ d.weights Try.prog 28, n ≤ reachBytes) :
    ∃ l, PeC w v l := by
  obtain ⟨l, hI⟩ := peers_of ho hk hw
  refine ⟨l, hI, ?_⟩
  obtain ⟨a0, len0, cap0, rfl⟩ := okWide_slice Try.underlying28 ho
  obtain ⟨fuel, hf⟩ := hk
  have hlen : len0 = l.length := by
    obtain ⟨a, c, e, -⟩ := hI
    simp only [Value.slice.injEq] at e
    exact e.2.1
  rcases DataW.trod_slice Try.underlying28 hf with ⟨e, -⟩ | ⟨a, len, cap, elems, rest, m, -, e, hy, hb, hl, hm, hln, -⟩
  · have e : [Value.slice a0 len0 cap0] = [Value.slice none 0 0] := e
    simp only [List.cons.injEq, Value.slice.injEq, and_true] at e
    obtain ⟨rfl, rfl, rfl⟩ := e
    exact ⟨⟨none, 0, by rw [← hlen], fun _ => rfl⟩, by omega⟩
  · have e : [Value.slice a0 len0 cap0] = [Value.slice (some a) len cap] := e
    simp only [List.cons.injEq, Value.slice.injEq, and_true] at e
    obtain ⟨rfl, rfl, rfl⟩ := e
    refine ⟨⟨some a, cap0, by rw [hlen], fun e => by cases e⟩, ?_⟩
    simp only [Prod.mk.injEq] at hy
    rw [hy.1] at hw
    have h9 := slice_len (P := Try.prog) Try.underlying28 hw
    rw [show Try.prog.bytesOf 34 = 24 from rfl, List.length_map] at h9
    simp only [reachBytes] at h9
    omega
theorem run_append_peers {w : World} (base : Nat) (ty : TypeId) (v : Value) (hown : w.ownsRow base 34 3 v 0 []) {A B : Nat} (a : Option Addr) (c : Nat) (l : List Pe) (hnil : a = none → c = 0) (hs : PeR w A B (.slice a l.length c) l)
    (hbytes : l.length * 24 ≤ 140737488355328) (hbase : base ≤ w.heap.size) (x : Nat) :
    ∃ v' w', (Builtin.append_ #[28, 28] ty #[v, .slice a l.length c]).run Try.prog w = .ok v' w' ∧ (∃ a' c', v' = .slice a' l.length c' ∧ RX w' base a' l 0 x) ∧ w.grownBy w' v.ownBlock := by
  obtain ⟨i0, hi, hq0, hq1, hq2⟩ := info_parts info_peer
  cases a with
  | none =>
    have h0 : l = [] := by
      obtain ⟨a', c', he, -, -, hc⟩ := hs
      apply List.eq_nil_of_length_eq_zero
      apply Nat.eq_zero_of_not_pos
      intro hp
      obtain ⟨b, off, rfl, -⟩ := hc hp
      simp at he
    subst h0
    have hc0 := hnil rfl
    subst hc0
    refine ⟨v, w, run_append_owned_none (P := Try.prog) (w := w) base 28 ty 34 i0 3 Try.underlying28 hi v _ _ hown, ?_, World.grownBy.refl w _⟩
    rcases hown.2 with ⟨rfl, -⟩ | ⟨g, cap, cur, rfl, _⟩
    · exact ⟨none, 0, rfl, fun h => absurd h (by simp)⟩
    · exact ⟨_, _, rfl, fun h => absurd h (by simp)⟩
  | some ad =>
    obtain ⟨v', w', hr, h2, h3, -⟩ := run_append_own (P := Try.prog) w base 28 ty 34 i0 _ 3 24 Try.underlying28 hi hq0 hq1 hq2 rfl (by omega) v 0 _ hown ad l.length c (flatP l) (flatP_len l) (flatP_cells hs ad rfl) (flatP_one l) (by unfold maxLen; omega) (by omega) hbase
    refine ⟨v', w', hr, ?_, h3⟩
    rw [Nat.zero_add, List.nil_append] at h2
    rcases h2.2 with ⟨rfl, h0⟩ | ⟨g, cap, cur, rfl, hbg, hg, k1, k2, k3, k4⟩
    · exact ⟨none, 0, by rw [h0], fun h => by omega⟩
    · refine ⟨_, _, rfl, fun _ => ⟨g, rfl, hbg, (Array.getElem?_eq_some_iff.1 hg).1, fun j => frozen_of_row w' g j cur _ hg, fun i hi => ?_, fun i hi => ?_, fun i hi => ?_⟩⟩
      · have := h2.cells (g := g) rfl (i * 3) _ (flatP_at l i hi).1
        rw [Addr.add_lit, Nat.zero_add] at this
        exact this
      · have := h2.cells (g := g) rfl (i * 3 + 1) _ (flatP_at l i hi).2.1
        rw [Addr.add_lit, Nat.zero_add] at this
        exact this
      · have := h2.cells (g := g) rfl (i * 3 + 2) _ (flatP_at l i hi).2.2
        rw [Addr.add_lit, Nat.zero_add] at this
        rw [if_neg (Nat.not_lt_zero _)]
        exact this
theorem wpList_append_peers {w : World} {ops : Array Oper} {rest : List Oper} {o : Oper} {a : Act} {Q : Exit → Act → World → Prop} (hgd : o.guard = none) (s y : Operand)
    (ho : o.op = .call { callee := .builtin .append, args := #[s, y], argTypes := #[28, 28] })
    (base : Nat) (v : Value) (hs : a.eval s = v) (hown : w.ownsRow base 34 3 v 0 []) {A B : Nat} (ad : Option Addr) (c : Nat) (l : List Pe) (hx : a.eval y = .slice ad l.length c) (hnil : ad = none → c = 0) (hsrc : PeR w A B (.slice ad l.length c) l)
    (hbytes : l.length * 24 ≤ 140737488355328) (hbase : base ≤ w.heap.size) (x : Nat)
    (h : ∀ a' c' w', RX w' base a' l 0 x → w.grownBy w' v.ownBlock → wpList Try.prog ops Q rest (a.put o.dst (.slice a' l.length c')) w') : wpList Try.prog ops Q (o :: rest) a w := by
  obtain ⟨v', w', hrun, ⟨a', c', rfl, h2⟩, h3⟩ := run_append_peers base o.type v hown ad c l hnil hsrc hbytes hbase x
  refine wpList_plain hgd fun K hK => ?_
  unfold Oper.wp execOp
  simp only [ho, resolve, invoke, builtin, Sem.run_bind, Sem.run_pure, Result.andThen_ok, List.map_toArray, List.map_cons, List.map_nil, hs, hx, hrun]
  exact hK _ _ (h a' c' w' h2 h3)
theorem none_peers (w : World) (base : Nat) (T : TypeId) (hb : base ≤ w.heap.size) (hT : T = 34) : (w.alloc (.cells #[] T)).ownsRow base 34 3 (.slice (some ⟨w.heap.size, 0, none⟩) 0 0) 0 [] := by
  subst hT
  exact ⟨rfl, .inr ⟨w.heap.size, 0, #[], rfl, hb, heap_alloc_new w _, Nat.le_refl _, by unfold maxLen; omega, by simp, by simp⟩⟩
set_option maxHeartbeats 16000000 in
theorem quorumEndsN (v u : Value) (ks : List Int) (id : Int) (en x : Nat) (l : List Pe) (w : World) (h : IntsR w 0 w.heap.size v ks) (hc : PeC w u l) (hx : Lt64 x) :
    Calls Try.prog 9 #[v, .int .i64 id, .int .u64 (en : Nat), u, .int .u64 (x : Nat)] w fun e w' => e = .returned (.bool true) ∧ Below w.heap.size w w' := by
  obtain ⟨hu, ⟨a2, c2, rfl, hnil⟩, hby⟩ := hc
  have KM : Hid (∀ z, Below w.heap.size w z → Calls Try.prog 10 #[] z fun e z' => e = .returned (.bool true) ∧ Below z.heap.size z z') := fun z _ => most_true z
  have KS : Hid (∀ z, Below w.heap.size w z → Calls Try.prog 11 #[] z fun e z' => e = .returned (.bool true) ∧ Below z.heap.size z z') := fun z _ => settled_true z
  have HB0 : Hid (Below w.heap.size w w) := Below.refl _ _
  have K1 : Hid (∀ z, Below w.heap.size w z → Calls Try.prog 16 #[v, .int .i64 id, .int .u64 (en : Nat), .slice a2 l.length c2] z fun e z' => e = .returned (.int .u64 (setB ks id en l : Nat)) ∧ Below z.heap.size z z') := fun z hz => the_settled v _ ks id en l z (h.on hz) (hu.on hz)
  have hl : l.length ≤ 8796093022208 := by obtain ⟨-, -, -, h2, -⟩ := hu; exact h2
  have hpp : ∀ p ∈ l, (-9223372036854775808 ≤ p.id ∧ p.id ≤ 9223372036854775807) ∧ Lt64 p.nx ∧ Lt64 p.ma := by obtain ⟨-, -, -, -, h2, -⟩ := hu; exact h2
  have K2 : Hid (∀ z a c, Below w.heap.size w z → RX z w.heap.size a l l.length x → Calls Try.prog 16 #[v, .int .i64 id, .int .u64 (en : Nat), .slice a l.length c] z fun e z' => e = .returned (.int .u64 (setB ks id en (l.map (bump x)) : Nat)) ∧ Below z.heap.size z z') := fun z a c hz hr => the_settled v _ ks id en (l.map (bump x)) z (h.on hz) (hr.peers hl hpp hx)
  have HGE := Lib.hid (set_bump ks id en x l)
  have HIS := Lib.hid (isO_true ks id en l)
  have HU := Lib.hid (fun z (hz : Below w.heap.size w z) => hu.keep hz)
  have HN := Lib.hid hnil
  have HBY := Lib.hid hby
  have HBS := Lib.hid (show w.heap.size ≤ w.heap.size from Nat.le_refl _)
  obtain ⟨a, c, rfl⟩ := h.slice
  clear h hu hnil hby hpp hx
  generalize setB ks id en (l.map (bump x)) = n2 at *
  generalize setB ks id en l = n at *
  have HI0 : Hid (∀ b, (decide (n = en) || decide (n = 0)) = b → b = isO n en (l.take 0)) := fun b hb => by rw [← hb]; unfold isO; simp
  have HNG : Hid (decide (n ≤ n2) = true) := decide_eq_true HGE.out
  by_cases e1 : n = en
  · subst e1
    have HE1' : (n = n) = True := by simp
    have HE2' : (True : Prop) = True := rfl
    go_enter Try.func9, Try.ntmps9
    go_wp2_with (go_at_call 10; (with_reducible refine (KM.out _ HB0.out).mono ?_); rintro e w1 ⟨rfl, hb⟩; have HB1 := Lib.hid (HB0.out.trans (hb.mono HB0.out.size)); clear hb)
    go_wp2_with (first | (go_at_call 11; (with_reducible refine (KS.out _ HB1.out).mono ?_); rintro e w2 ⟨rfl, hb⟩; have HB2 := Lib.hid (HB1.out.trans (hb.mono HB1.out.size)); clear hb) | (go_at_call 16; (with_reducible refine (K1.out _ HB2.out).mono ?_); rintro e w3 ⟨rfl, hb⟩; have HB3 := Lib.hid (HB2.out.trans (hb.mono HB2.out.size)); clear hb; have HB3a := Lib.hid (HB3.out.alloc HB3.out.size (.cells #[] 34)); have HS3 := Lib.hid (show w.heap.size ≤ (w3.alloc (.cells #[] 34)).heap.size by rw [World.size_alloc]; have := HB3.out.size; omega); have HE0 := Lib.hid (none_peers w3 w.heap.size 34 HB3.out.size rfl); have HU2 := Lib.hid (HU.out _ HB3a.out)) | (at_builtin; go_loud (refine wpList_append_peers rfl _ _ rfl w.heap.size _ rfl HE0.out a2 c2 l rfl HN.out HU2.out HBY.out HS3.out x ?_; intro a4 c4 w4 hown4 hg4; have HO4 := Lib.hid hown4; have HW4 := Lib.hid (HB3a.out.grown hg4 HS3.out (fun k hk => (World.ownsRow.lt HE0.out k hk).1)); clear hown4 hg4)))
    go_wp2
    go_loopg [12, 38] l.length (fun gg sv i wx => ∃ (k : Nat) (b : Bool), k + gg = l.length ∧ sv = .bool b ∧ i = .int .i64 k ∧ Aside (Below w.heap.size w wx) ∧ Aside (RX wx w.heap.size a4 l k x) ∧ Aside (b = isO n n (l.take k)))
    case atStart => exact ⟨0, _, by omega, rfl, rfl, HW4.out, HO4.out, HI0.out _ (by simp [*])⟩
    case round =>
      obtain ⟨k, b, hkg, rfl, rfl, HB, HRX, HBI⟩ := hrel
      cases gk with
      | zero =>
        obtain rfl : k = l.length := by omega
        have hb0 : b = true := by
          have := HBI.out
          rw [List.take_length, HIS.out] at this
          exact this
        subst hb0
        have K3 := Lib.hid (K2.out _ a4 c4 HB.out HRX.out)
        have t6 := HNG.out
        clear hkg HBI HRX
        go_wp2_with (go_at_call 16; go_loud ((with_reducible refine K3.out.mono ?_); rintro e y1 ⟨rfl, hb⟩; have HY1 := Lib.hid (HB.out.trans (hb.mono HB.out.size)); clear hb))
        go_wp2
        go_ret
        exact ⟨rfl, HY1.out⟩
      | succ gg =>
        have hlt : k < l.length := by omega
        have hlt2 : (k : Int) < (l.length : Int) := by omega
        have hltn : (k : Int) < ((l.length : Nat) : Int) := by omega
        obtain ⟨g, rfl, hg⟩ := HRX.out (by omega)
        have y2 := hg.c2 k hlt
        rw [if_neg (Nat.lt_irrefl _)] at y2
        have hf2 := hg.fz (k * 3 + 2)
        have HLO := Lib.hid hg.lo
        have HPUT := Lib.hid (fun h => hg.put hlt h)
        have HSKIP := Lib.hid (fun h => hg.skip hlt h)
        have tk : IntKind.i64.wrap ((k : Int) + 1) = (k : Int) + 1 := by rw [IntKind.wrap_i64]; omega
        have HAT := Lib.hid (isO_at _ _ l k hlt : isO n n (l.take (k + 1)) = _)
        have HK := Lib.hid hkg
        clear hg HRX hkg
        generalize l[k].ma = xm at *
        cases b
        · have HB1 : Hid ((decide (xm = n)) = isO n n (l.take (k + 1))) := by show _ = _; rw [HAT.out, ← HBI.out]; simp
          by_cases hmn : xm = n
          · have u1 : (xm == n) = true := by simpa using hmn
            have u2 : ((xm : Int) == (n : Int)) = true := by simp; omega
            have HBE : Hid (true = isO n n (l.take (k + 1))) := by show _ = _; rw [← HB1.out, decide_eq_true hmn]
            clear HB1 HAT HBI hmn
            by_cases hlx : xm < x
            · have t5 : decide (xm < x) = true := by simpa using hlx
              have HP5 := Lib.hid (HPUT.out hlx)
              clear hlx HPUT HSKIP
              go_wp2
              go_roundg gg
              case measure => have := HK.out; omega
              case rel => exact ⟨k + 1, _, by have := HK.out; omega, rfl, by simp, HB.out.setCell (by exact HLO.out) _, fun _ => ⟨g, rfl, HP5.out⟩, HBE.out⟩
            · have t5 : decide (xm < x) = false := by simpa using hlx
              have HP5 := Lib.hid (HSKIP.out hlx)
              clear hlx HPUT HSKIP
              go_wp2
              go_roundg gg
              case measure => have := HK.out; omega
              case rel => exact ⟨k + 1, _, by have := HK.out; omega, rfl, by simp, HB.out, fun _ => ⟨g, rfl, HP5.out⟩, HBE.out⟩
          · have u1 : (xm == n) = false := by simpa using hmn
            have u2 : ((xm : Int) == (n : Int)) = false := by simp; omega
            have HBE : Hid (false = isO n n (l.take (k + 1))) := by show _ = _; rw [← HB1.out, decide_eq_false hmn]
            clear HB1 HAT HBI hmn
            by_cases hlx : xm < x
            · have t5 : decide (xm < x) = true := by simpa using hlx
              have HP5 := Lib.hid (HPUT.out hlx)
              clear hlx HPUT HSKIP
              go_wp2
              go_roundg gg
              case measure => have := HK.out; omega
              case rel => exact ⟨k + 1, _, by have := HK.out; omega, rfl, by simp, HB.out.setCell (by exact HLO.out) _, fun _ => ⟨g, rfl, HP5.out⟩, HBE.out⟩
            · have t5 : decide (xm < x) = false := by simpa using hlx
              have HP5 := Lib.hid (HSKIP.out hlx)
              clear hlx HPUT HSKIP
              go_wp2
              go_roundg gg
              case measure => have := HK.out; omega
              case rel => exact ⟨k + 1, _, by have := HK.out; omega, rfl, by simp, HB.out, fun _ => ⟨g, rfl, HP5.out⟩, HBE.out⟩
        · have HBE : Hid (true = isO n n (l.take (k + 1))) := by show _ = _; rw [HAT.out, ← HBI.out]; simp
          clear HAT HBI
          by_cases hlx : xm < x
          · have t5 : decide (xm < x) = true := by simpa using hlx
            have HP5 := Lib.hid (HPUT.out hlx)
            clear hlx HPUT HSKIP
            go_wp2
            go_roundg gg
            case measure => have := HK.out; omega
            case rel => exact ⟨k + 1, _, by have := HK.out; omega, rfl, by simp, HB.out.setCell (by exact HLO.out) _, fun _ => ⟨g, rfl, HP5.out⟩, HBE.out⟩
          · have t5 : decide (xm < x) = false := by simpa using hlx
            have HP5 := Lib.hid (HSKIP.out hlx)
            clear hlx HPUT HSKIP
            go_wp2
            go_roundg gg
            case measure => have := HK.out; omega
            case rel => exact ⟨k + 1, _, by have := HK.out; omega, rfl, by simp, HB.out, fun _ => ⟨g, rfl, HP5.out⟩, HBE.out⟩
  · have v1 : (n == en) = false := by simpa using e1
    have v2 : ((n : Int) == (en : Int)) = false := by simp; omega
    by_cases e2 : n = 0
    · subst e2
      have HE1' : ((0 : Nat) = en) = False := by simpa using e1
      have HE2' : ((0 : Nat) = 0) = True := by simp
      go_enter Try.func9, Try.ntmps9
      go_wp2_with (go_at_call 10; (with_reducible refine (KM.out _ HB0.out).mono ?_); rintro e w1 ⟨rfl, hb⟩; have HB1 := Lib.hid (HB0.out.trans (hb.mono HB0.out.size)); clear hb)
      go_wp2_with (first | (go_at_call 11; (with_reducible refine (KS.out _ HB1.out).mono ?_); rintro e w2 ⟨rfl, hb⟩; have HB2 := Lib.hid (HB1.out.trans (hb.mono HB1.out.size)); clear hb) | (go_at_call 16; (with_reducible refine (K1.out _ HB2.out).mono ?_); rintro e w3 ⟨rfl, hb⟩; have HB3 := Lib.hid (HB2.out.trans (hb.mono HB2.out.size)); clear hb; have HB3a := Lib.hid (HB3.out.alloc HB3.out.size (.cells #[] 34)); have HS3 := Lib.hid (show w.heap.size ≤ (w3.alloc (.cells #[] 34)).heap.size by rw [World.size_alloc]; have := HB3.out.size; omega); have HE0 := Lib.hid (none_peers w3 w.heap.size 34 HB3.out.size rfl); have HU2 := Lib.hid (HU.out _ HB3a.out)) | (at_builtin; go_loud (refine wpList_append_peers rfl _ _ rfl w.heap.size _ rfl HE0.out a2 c2 l rfl HN.out HU2.out HBY.out HS3.out x ?_; intro a4 c4 w4 hown4 hg4; have HO4 := Lib.hid hown4; have HW4 := Lib.hid (HB3a.out.grown hg4 HS3.out (fun k hk => (World.ownsRow.lt HE0.out k hk).1)); clear hown4 hg4)))
      go_wp2
      go_loopg [12, 38] l.length (fun gg sv i wx => ∃ (k : Nat) (b : Bool), k + gg = l.length ∧ sv = .bool b ∧ i = .int .i64 k ∧ Aside (Below w.heap.size w wx) ∧ Aside (RX wx w.heap.size a4 l k x) ∧ Aside (b = isO 0 en (l.take k)))
      case atStart => exact ⟨0, _, by omega, rfl, rfl, HW4.out, HO4.out, HI0.out _ (by simp [*])⟩
      case round =>
        obtain ⟨k, b, hkg, rfl, rfl, HB, HRX, HBI⟩ := hrel
        cases gk with
        | zero =>
          obtain rfl : k = l.length := by omega
          have hb0 : b = true := by
            have := HBI.out
            rw [List.take_length, HIS.out] at this
            exact this
          subst hb0
          have K3 := Lib.hid (K2.out _ a4 c4 HB.out HRX.out)
          have t6 := HNG.out
          clear hkg HBI HRX
          go_wp2_with (go_at_call 16; go_loud ((with_reducible refine K3.out.mono ?_); rintro e y1 ⟨rfl, hb⟩; have HY1 := Lib.hid (HB.out.trans (hb.mono HB.out.size)); clear hb))
          go_wp2
          go_ret
          exact ⟨rfl, HY1.out⟩
        | succ gg =>
          have hlt : k < l.length := by omega
          have hlt2 : (k : Int) < (l.length : Int) := by omega
          have hltn : (k : Int) < ((l.length : Nat) : Int) := by omega
          obtain ⟨g, rfl, hg⟩ := HRX.out (by omega)
          have y2 := hg.c2 k hlt
          rw [if_neg (Nat.lt_irrefl _)] at y2
          have hf2 := hg.fz (k * 3 + 2)
          have HLO := Lib.hid hg.lo
          have HPUT := Lib.hid (fun h => hg.put hlt h)
          have HSKIP := Lib.hid (fun h => hg.skip hlt h)
          have tk : IntKind.i64.wrap ((k : Int) + 1) = (k : Int) + 1 := by rw [IntKind.wrap_i64]; omega
          have HAT := Lib.hid (isO_at _ _ l k hlt : isO 0 en (l.take (k + 1)) = _)
          have HK := Lib.hid hkg
          clear hg HRX hkg
          generalize l[k].ma = xm at *
          cases b
          · have HB1 : Hid ((decide (xm = 0)) = isO 0 en (l.take (k + 1))) := by show _ = _; rw [HAT.out, ← HBI.out]; simp
            by_cases hmn : xm = 0
            · have u1 : (xm == 0) = true := by simpa using hmn
              have u2 : ((xm : Int) == 0) = true := by simp; omega
              have HBE : Hid (true = isO 0 en (l.take (k + 1))) := by show _ = _; rw [← HB1.out, decide_eq_true hmn]
              clear HB1 HAT HBI hmn
              by_cases hlx : xm < x
              · have t5 : decide (xm < x) = true := by simpa using hlx
                have HP5 := Lib.hid (HPUT.out hlx)
                clear hlx HPUT HSKIP
                go_wp2
                go_roundg gg
                case measure => have := HK.out; omega
                case rel => exact ⟨k + 1, _, by have := HK.out; omega, rfl, by simp, HB.out.setCell (by exact HLO.out) _, fun _ => ⟨g, rfl, HP5.out⟩, HBE.out⟩
              · have t5 : decide (xm < x) = false := by simpa using hlx
                have HP5 := Lib.hid (HSKIP.out hlx)
                clear hlx HPUT HSKIP
                go_wp2
                go_roundg gg
                case measure => have := HK.out; omega
                case rel => exact ⟨k + 1, _, by have := HK.out; omega, rfl, by simp, HB.out, fun _ => ⟨g, rfl, HP5.out⟩, HBE.out⟩
            · have u1 : (xm == 0) = false := by simpa using hmn
              have u2 : ((xm : Int) == 0) = false := by simp; omega
              have HBE : Hid (false = isO 0 en (l.take (k + 1))) := by show _ = _; rw [← HB1.out, decide_eq_false hmn]
              clear HB1 HAT HBI hmn
              by_cases hlx : xm < x
              · have t5 : decide (xm < x) = true := by simpa using hlx
                have HP5 := Lib.hid (HPUT.out hlx)
                clear hlx HPUT HSKIP
                go_wp2
                go_roundg gg
                case measure => have := HK.out; omega
                case rel => exact ⟨k + 1, _, by have := HK.out; omega, rfl, by simp, HB.out.setCell (by exact HLO.out) _, fun _ => ⟨g, rfl, HP5.out⟩, HBE.out⟩
              · have t5 : decide (xm < x) = false := by simpa using hlx
                have HP5 := Lib.hid (HSKIP.out hlx)
                clear hlx HPUT HSKIP
                go_wp2
                go_roundg gg
                case measure => have := HK.out; omega
                case rel => exact ⟨k + 1, _, by have := HK.out; omega, rfl, by simp, HB.out, fun _ => ⟨g, rfl, HP5.out⟩, HBE.out⟩
          · have HBE : Hid (true = isO 0 en (l.take (k + 1))) := by show _ = _; rw [HAT.out, ← HBI.out]; simp
            clear HAT HBI
            by_cases hlx : xm < x
            · have t5 : decide (xm < x) = true := by simpa using hlx
              have HP5 := Lib.hid (HPUT.out hlx)
              clear hlx HPUT HSKIP
              go_wp2
              go_roundg gg
              case measure => have := HK.out; omega
              case rel => exact ⟨k + 1, _, by have := HK.out; omega, rfl, by simp, HB.out.setCell (by exact HLO.out) _, fun _ => ⟨g, rfl, HP5.out⟩, HBE.out⟩
            · have t5 : decide (xm < x) = false := by simpa using hlx
              have HP5 := Lib.hid (HSKIP.out hlx)
              clear hlx HPUT HSKIP
              go_wp2
              go_roundg gg
              case measure => have := HK.out; omega
              case rel => exact ⟨k + 1, _, by have := HK.out; omega, rfl, by simp, HB.out, fun _ => ⟨g, rfl, HP5.out⟩, HBE.out⟩
    · have v3 : (n == 0) = false := by simpa using e2
      have v4 : ((n : Int) == 0) = false := by simp; omega
      have HE1' : (n = en) = False := by simpa using e1
      have HE2' : (n = 0) = False := by simpa using e2
      go_enter Try.func9, Try.ntmps9
      go_wp2_with (go_at_call 10; (with_reducible refine (KM.out _ HB0.out).mono ?_); rintro e w1 ⟨rfl, hb⟩; have HB1 := Lib.hid (HB0.out.trans (hb.mono HB0.out.size)); clear hb)
      go_wp2_with (first | (go_at_call 11; (with_reducible refine (KS.out _ HB1.out).mono ?_); rintro e w2 ⟨rfl, hb⟩; have HB2 := Lib.hid (HB1.out.trans (hb.mono HB1.out.size)); clear hb) | (go_at_call 16; (with_reducible refine (K1.out _ HB2.out).mono ?_); rintro e w3 ⟨rfl, hb⟩; have HB3 := Lib.hid (HB2.out.trans (hb.mono HB2.out.size)); clear hb; have HB3a := Lib.hid (HB3.out.alloc HB3.out.size (.cells #[] 34)); have HS3 := Lib.hid (show w.heap.size ≤ (w3.alloc (.cells #[] 34)).heap.size by rw [World.size_alloc]; have := HB3.out.size; omega); have HE0 := Lib.hid (none_peers w3 w.heap.size 34 HB3.out.size rfl); have HU2 := Lib.hid (HU.out _ HB3a.out)) | (at_builtin; go_loud (refine wpList_append_peers rfl _ _ rfl w.heap.size _ rfl HE0.out a2 c2 l rfl HN.out HU2.out HBY.out HS3.out x ?_; intro a4 c4 w4 hown4 hg4; have HO4 := Lib.hid hown4; have HW4 := Lib.hid (HB3a.out.grown hg4 HS3.out (fun k hk => (World.ownsRow.lt HE0.out k hk).1)); clear hown4 hg4)))
      go_wp2
      go_loopg [12, 38] l.length (fun gg sv i wx => ∃ (k : Nat) (b : Bool), k + gg = l.length ∧ sv = .bool b ∧ i = .int .i64 k ∧ Aside (Below w.heap.size w wx) ∧ Aside (RX wx w.heap.size a4 l k x) ∧ Aside (b = isO n en (l.take k)))
      case atStart => exact ⟨0, _, by omega, rfl, rfl, HW4.out, HO4.out, HI0.out _ (by simp [*])⟩
      case round =>
        obtain ⟨k, b, hkg, rfl, rfl, HB, HRX, HBI⟩ := hrel
        cases gk with
        | zero =>
          obtain rfl : k = l.length := by omega
          have hb0 : b = true := by
            have := HBI.out
            rw [List.take_length, HIS.out] at this
            exact this
          subst hb0
          have K3 := Lib.hid (K2.out _ a4 c4 HB.out HRX.out)
          have t6 := HNG.out
          clear hkg HBI HRX
          go_wp2_with (go_at_call 16; go_loud ((with_reducible refine K3.out.mono ?_); rintro e y1 ⟨rfl, hb⟩; have HY1 := Lib.hid (HB.out.trans (hb.mono HB.out.size)); clear hb))
          go_wp2
          go_ret
          exact ⟨rfl, HY1.out⟩
        | succ gg =>
          have hlt : k < l.length := by omega
          have hlt2 : (k : Int) < (l.length : Int) := by omega
          have hltn : (k : Int) < ((l.length : Nat) : Int) := by omega
          obtain ⟨g, rfl, hg⟩ := HRX.out (by omega)
          have y2 := hg.c2 k hlt
          rw [if_neg (Nat.lt_irrefl _)] at y2
          have hf2 := hg.fz (k * 3 + 2)
          have HLO := Lib.hid hg.lo
          have HPUT := Lib.hid (fun h => hg.put hlt h)
          have HSKIP := Lib.hid (fun h => hg.skip hlt h)
          have tk : IntKind.i64.wrap ((k : Int) + 1) = (k : Int) + 1 := by rw [IntKind.wrap_i64]; omega
          have HAT := Lib.hid (isO_at _ _ l k hlt : isO n en (l.take (k + 1)) = _)
          have HK := Lib.hid hkg
          clear hg HRX hkg
          generalize l[k].ma = xm at *
          cases b
          · have HB1 : Hid ((decide (xm = n)) = isO n en (l.take (k + 1))) := by show _ = _; rw [HAT.out, ← HBI.out]; simp
            by_cases hmn : xm = n
            · have u1 : (xm == n) = true := by simpa using hmn
              have u2 : ((xm : Int) == (n : Int)) = true := by simp; omega
              have HBE : Hid (true = isO n en (l.take (k + 1))) := by show _ = _; rw [← HB1.out, decide_eq_true hmn]
              clear HB1 HAT HBI hmn
              by_cases hlx : xm < x
              · have t5 : decide (xm < x) = true := by simpa using hlx
                have HP5 := Lib.hid (HPUT.out hlx)
                clear hlx HPUT HSKIP
                go_wp2
                go_roundg gg
                case measure => have := HK.out; omega
                case rel => exact ⟨k + 1, _, by have := HK.out; omega, rfl, by simp, HB.out.setCell (by exact HLO.out) _, fun _ => ⟨g, rfl, HP5.out⟩, HBE.out⟩
              · have t5 : decide (xm < x) = false := by simpa using hlx
                have HP5 := Lib.hid (HSKIP.out hlx)
                clear hlx HPUT HSKIP
                go_wp2
                go_roundg gg
                case measure => have := HK.out; omega
                case rel => exact ⟨k + 1, _, by have := HK.out; omega, rfl, by simp, HB.out, fun _ => ⟨g, rfl, HP5.out⟩, HBE.out⟩
            · have u1 : (xm == n) = false := by simpa using hmn
              have u2 : ((xm : Int) == (n : Int)) = false := by simp; omega
              have HBE : Hid (false = isO n en (l.take (k + 1))) := by show _ = _; rw [← HB1.out, decide_eq_false hmn]
              clear HB1 HAT HBI hmn
              by_cases hlx : xm < x
              · have t5 : decide (xm < x) = true := by simpa using hlx
                have HP5 := Lib.hid (HPUT.out hlx)
                clear hlx HPUT HSKIP
                go_wp2
                go_roundg gg
                case measure => have := HK.out; omega
                case rel => exact ⟨k + 1, _, by have := HK.out; omega, rfl, by simp, HB.out.setCell (by exact HLO.out) _, fun _ => ⟨g, rfl, HP5.out⟩, HBE.out⟩
              · have t5 : decide (xm < x) = false := by simpa using hlx
                have HP5 := Lib.hid (HSKIP.out hlx)
                clear hlx HPUT HSKIP
                go_wp2
                go_roundg gg
                case measure => have := HK.out; omega
                case rel => exact ⟨k + 1, _, by have := HK.out; omega, rfl, by simp, HB.out, fun _ => ⟨g, rfl, HP5.out⟩, HBE.out⟩
          · have HBE : Hid (true = isO n en (l.take (k + 1))) := by show _ = _; rw [HAT.out, ← HBI.out]; simp
            clear HAT HBI
            by_cases hlx : xm < x
            · have t5 : decide (xm < x) = true := by simpa using hlx
              have HP5 := Lib.hid (HPUT.out hlx)
              clear hlx HPUT HSKIP
              go_wp2
              go_roundg gg
              case measure => have := HK.out; omega
              case rel => exact ⟨k + 1, _, by have := HK.out; omega, rfl, by simp, HB.out.setCell (by exact HLO.out) _, fun _ => ⟨g, rfl, HP5.out⟩, HBE.out⟩
            · have t5 : decide (xm < x) = false := by simpa using hlx
              have HP5 := Lib.hid (HSKIP.out hlx)
              clear hlx HPUT HSKIP
              go_wp2
              go_roundg gg
              case measure => have := HK.out; omega
              case rel => exact ⟨k + 1, _, by have := HK.out; omega, rfl, by simp, HB.out, fun _ => ⟨g, rfl, HP5.out⟩, HBE.out⟩
theorem quorumEnds (v u : Value) (ks : List Int) (id y x : Int) (l : List Pe) (w : World) (h : IntsR w 0 w.heap.size v ks) (hc : PeC w u l) (hy : (Lit.int .u64 y).wf = true) (hx : (Lit.int .u64 x).wf = true) :
    Calls Try.prog 9 #[v, .int .i64 id, .int .u64 y, u, .int .u64 x] w fun e w' => e = .returned (.bool true) ∧ Below w.heap.size w w' := by
  obtain ⟨en, rfl, -⟩ := u64_of' hy
  obtain ⟨m, rfl, hm⟩ := u64_of' hx
  exact quorumEndsN v u ks id en m l w h hc hm
end Qu
end Go.Proofs.Ytndihliagcgdeaa
