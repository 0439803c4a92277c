/-
  WALK of the law on fewer wants, more that is borne, less that is needed.
-/
import Derived.Test.YtcjpflpmidjadaaRigSuit2
import Derived.Test.YtcjpflpmidjadaaRigRoom
import Derived.Test.YtcjpflpmidjadaaRigOwn
import Derived.Deep.DeepCutAuto
import Derived.Deep.RegionLaw
import Derived.Deep.RegionHeld3
import Derived.Laws.AppendOwn
namespace Go.Proofs.Ytcjpflpmidjadaa
open Go.RowKit
namespace Rg
theorem suit_less {ws ls ts bs : List Pr} (h : suitB ws ls ts bs = true) : suitB (ws.drop 1) ls ts bs = true := by
  unfold suitB amongB at *
  simp only [Bool.and_eq_true, List.all_eq_true] at *
  exact ⟨fun p hp => h.1 p (List.mem_of_mem_drop hp), h.2⟩
theorem suit_more {ws ls ts bs : List Pr} (m : Pr) (h : suitB ws ls ts bs = true) : suitB ws ls ts (bs ++ [m]) = true := by
  unfold suitB amongB at *
  simp only [Bool.and_eq_true, List.all_eq_true] at *
  refine ⟨h.1, fun p hp => ?_⟩
  have := h.2 p hp
  unfold isIn at *
  rw [List.any_append, this]; rfl
theorem room_parts {x0 x1 x2 u0 u1 u2 n0 n1 n2 : Int} (h : roomB x0 x1 x2 u0 u1 u2 n0 n1 n2 = true) :
    uptoB x0 x1 x2 1099511627776 = true ∧ uptoB u0 u1 u2 35184372088832 = true ∧ uptoB n0 n1 n2 1099511627776 = true ∧ u0 + n0 ≤ x0 ∧ u1 + n1 ≤ x1 ∧ u2 + n2 ≤ x2 := by
  unfold roomB fitsB at h
  simp only [Bool.and_eq_true, decide_eq_true_eq] at h
  exact ⟨h.1, h.2.1, h.2.2.1, h.2.2.2.1, h.2.2.2.2.1, h.2.2.2.2.2⟩
theorem room_of {x0 x1 x2 u0 u1 u2 n0 n1 n2 : Int} (h1 : uptoB x0 x1 x2 1099511627776 = true) (h2 : uptoB u0 u1 u2 35184372088832 = true) (h3 : uptoB n0 n1 n2 1099511627776 = true) (h4 : u0 + n0 ≤ x0 ∧ u1 + n1 ≤ x1 ∧ u2 + n2 ≤ x2) :
    roomB x0 x1 x2 u0 u1 u2 n0 n1 n2 = true := by
  unfold roomB fitsB
  simp only [h1, h2, h3, h4.1, h4.2.1, h4.2.2, decide_true, Bool.and_true]
theorem upto_of {z0 z1 z2 m : Int} (h0 : 0 ≤ z0 ∧ z0 ≤ m) (h1 : 0 ≤ z1 ∧ z1 ≤ m) (h2 : 0 ≤ z2 ∧ z2 ≤ m) : uptoB z0 z1 z2 m = true := by
  unfold uptoB inB
  simp only [h0.1, h0.2, h1.1, h1.2, h2.1, h2.2, decide_true, Bool.and_true]
theorem room_unused {x0 x1 x2 u0 u1 u2 n0 n1 n2 : Int} (h : roomB x0 x1 x2 u0 u1 u2 n0 n1 n2 = true) : roomB x0 x1 x2 0 0 0 n0 n1 n2 = true := by
  obtain ⟨h1, h2, h3, h4, h5, h6⟩ := room_parts h
  obtain ⟨a0, a1, a2⟩ := upto_in _ _ _ _ h2
  exact room_of h1 (upto_of (by omega) (by omega) (by omega)) h3 (by omega)
theorem room_less0 {x0 x1 x2 u0 u1 u2 n0 n1 n2 : Int} (h : roomB x0 x1 x2 u0 u1 u2 n0 n1 n2 = true) : roomB x0 x1 x2 u0 u1 u2 0 n1 n2 = true ∧ roomB x0 x1 x2 u0 u1 u2 n0 0 n2 = true ∧ roomB x0 x1 x2 u0 u1 u2 n0 n1 0 = true := by
  obtain ⟨h1, h2, h3, h4, h5, h6⟩ := room_parts h
  obtain ⟨b0, b1, b2⟩ := upto_in _ _ _ _ h3
  exact ⟨room_of h1 h2 (upto_of (by omega) b1 b2) (by omega), room_of h1 h2 (upto_of b0 (by omega) b2) (by omega), room_of h1 h2 (upto_of b0 b1 (by omega)) (by omega)⟩
/-- A block that is known whole. -/
def Bk (w : World) (g : Nat) (t : TypeId) (cs : Array Value) : Prop := w.heap[g]? = some (.cells cs t (0, 0))
theorem Bk.cell {w : World} {g : Nat} {t : TypeId} {cs : Array Value} (h : Bk w g t cs) (i : Nat) : w.cell? ⟨g, i, none⟩ = cs[i]? := by
  unfold Bk at h
  simp [World.cell?, h]
theorem Bk.frozen {w : World} {g : Nat} {t : TypeId} {cs : Array Value} (h : Bk w g t cs) (i : Nat) : w.frozen? ⟨g, i, none⟩ = false := by
  unfold Bk at h
  simp [World.frozen?, h]
theorem Bk.new (w : World) (t : TypeId) (cs : Array Value) : Bk (w.alloc (.cells cs t)) w.heap.size t cs := heap_alloc_new w _
theorem Bk.new1 (w : World) (o : Obj) (t : TypeId) (cs : Array Value) : Bk ((w.alloc o).alloc (.cells cs t)) (w.heap.size + 1) t cs := by
  have := Bk.new (w.alloc o) t cs
  rwa [World.size_alloc] at this
theorem Bk.lt {w : World} {g : Nat} {t : TypeId} {cs : Array Value} (h : Bk w g t cs) : g < w.heap.size := by
  rcases Nat.lt_or_ge g w.heap.size with hlt | hge
  · exact hlt
  · unfold Bk at h; rw [Array.getElem?_eq_none hge] at h; cases h
theorem Bk.alloc {w : World} {g : Nat} {t : TypeId} {cs : Array Value} (h : Bk w g t cs) (o : Obj) : Bk (w.alloc o) g t cs := (Below.heap_alloc w o g h.lt).trans h
theorem Bk.drew {w : World} {g : Nat} {t : TypeId} {cs : Array Value} (h : Bk w g t cs) : Bk w.drew g t cs := h
theorem Bk.below {w w' : World} {B g : Nat} {t : TypeId} {cs : Array Value} (h : Bk w g t cs) (hb : Below B w w') (hg : g < B) : Bk w' g t cs := (hb.block g hg).trans h
theorem Bk.grown {w w' : World} {g : Nat} {t : TypeId} {cs : Array Value} {row : Option Nat} (h : Bk w g t cs) (hb : w.grownBy w' row) (hg : some g ≠ row) : Bk w' g t cs := (hb.block g h.lt hg).trans h
theorem Bk.set {w : World} {g : Nat} {t : TypeId} {cs : Array Value} (h : Bk w g t cs) (i : Nat) (u : Value) : Bk (w.setCell ⟨g, i, none⟩ u) g t (cs.setIfInBounds i u) := by
  unfold Bk at *
  simp [World.setCell, Array.getElem?_modify, h]
theorem Bk.far {w : World} {g : Nat} {t : TypeId} {cs : Array Value} (h : Bk w g t cs) {p : Addr} (hp : g ≠ p.block) (u : Value) : Bk (w.setCell p u) g t cs := (Below.heap_setCell w p u g hp).trans h
theorem step_append_own {P : Program} {ops : Array Oper} {o : Oper} {a : Act} {w : World} {K : Act → World → Prop} {Q : Exit → Act → World → Prop} {E : Prop} (hgd : o.guard = none) (s x : Operand) (t : TypeId)
    (ho : o.op = .call { callee := .builtin .append, args := #[s, x], argTypes := #[t, t] })
    (base : Nat) (e : TypeId) (i : TypeInfo) (z : Value) (size bytes : Nat) (ht : P.underlying t = some (.slice e)) (hi : P.info? e = some i) (hz : i.zero = some z)
    (hsize : i.size = size) (hby : i.bytes = bytes) (hzs : z.cells.size = size) (hsz : 0 < size)
    (v : Value) (n : Nat) (xs : List Value) (hs : a.eval s = v) (hown : w.ownsRow base e size v n xs)
    (ad : Addr) (m c : Nat) (news : List Value) (hx : a.eval x = .slice (some ad) m c) (hl : news.length = m * size) (hnews : ∀ j u, news[j]? = some u → w.cell? (ad.add j) = some u) (h1 : ∀ u ∈ news, u.oneCell' = true)
    (h63 : n + m ≤ maxLen) (hbytes : (n + m) * bytes ≤ 140737488355328) (hbase : base ≤ w.heap.size)
    (h : ∀ v' w', w'.ownsRow base e size v' (n + m) (xs ++ news) → w.grownBy w' v.ownBlock → (v' = .slice none 0 0 ↔ v = .slice none 0 0 ∧ m = 0) → K (a.put o.dst v') w') :
    if Region.wanted o (yielded ops a.tmps) = true then Oper.wp P o a w K Q else E := by
  have hw : Region.wanted o (yielded ops a.tmps) = true := by simp [Region.wanted, hgd]
  rw [if_pos hw]
  exact wp_append_own w s x t ho base e i z size bytes ht hi hz hsize hby hzs hsz v n xs hs hown ad m c news hx hl hnews h1 h63 hbytes hbase h
def flatP (ps : List Pr) : List Value := ps.flatMap (fun p => [.string p.k, .string p.v])
theorem flatP_len (ps : List Pr) : (flatP ps).length = ps.length * 2 := by
  induction ps with
  | nil => rfl
  | cons p ps ih => simp only [flatP, List.flatMap_cons, List.length_append, List.length_cons, List.length_nil] at *; omega
theorem flatP_one (ps : List Pr) : ∀ u ∈ flatP ps, u.oneCell' = true := by
  intro u hu
  obtain ⟨p, _, h⟩ := List.mem_flatMap.1 hu
  simp at h
  rcases h with rfl | rfl <;> rfl
theorem flatP_get (ps : List Pr) : ∀ (i : Nat) (h : i < ps.length), (flatP ps)[i * 2]? = some (.string ps[i].k) ∧ (flatP ps)[i * 2 + 1]? = some (.string ps[i].v) := by
  induction ps with
  | nil => intro i h; simp at h
  | cons p ps ih =>
    intro i h
    cases i with
    | zero => exact ⟨rfl, rfl⟩
    | succ i =>
      have := ih i (by simpa using h)
      have e : flatP (p :: ps) = .string p.k :: .string p.v :: flatP ps := rfl
      rw [e, show (i + 1) * 2 = i * 2 + 1 + 1 by omega]
      exact this
theorem own_pairs {w : World} {base : Nat} {v : Value} {ps : List Pr} (h : w.ownsRow base 29 2 v ps.length (flatP ps)) (hs : ∀ p ∈ ps, p.k.size ≤ maxLen ∧ p.v.size ≤ maxLen) (hl : ps.length ≤ 4611686018427387904) : Pairs w w.heap.size v ps := by
  rcases h.2 with ⟨rfl, he⟩ | ⟨g, cap, cur, rfl, hb, _⟩
  · have h0 : ps = [] := by
      cases ps with
      | nil => rfl
      | cons p ps => simp at he
    subst h0
    exact Pairs.none_ _ _
  · refine ⟨_, _, rfl, hl, hs, fun hp => ⟨g, 0, rfl, (h.lt g rfl).2, fun i hi => ?_⟩⟩
    have hc := h.cells (g := g) rfl
    have k1 := hc (i * 2) _ (flatP_get ps i hi).1
    have k2 := hc (i * 2 + 1) _ (flatP_get ps i hi).2
    rw [Addr.add_lit] at k1 k2
    exact ⟨by simpa using k1, by simpa [Nat.add_assoc] using k2⟩
theorem pairs_cells {w : World} {B n c : Nat} {ad : Addr} {ps : List Pr} (h : Pairs w B (.slice (some ad) n c) ps) : n = ps.length ∧ ∀ j u, (flatP ps)[j]? = some u → w.cell? (ad.add j) = some u := by
  obtain ⟨a, c2, e, -, -, h3⟩ := h
  simp only [Value.slice.injEq] at e
  obtain ⟨rfl, rfl, rfl⟩ := e
  refine ⟨rfl, fun j u hj => ?_⟩
  have hlt : j < ps.length * 2 := by
    rw [← flatP_len]
    exact (List.getElem?_eq_some_iff.1 hj).1
  obtain ⟨b, off, e2, -, hc⟩ := h3 (by omega)
  obtain rfl := Option.some.inj e2
  have hi : j / 2 < ps.length := by omega
  obtain ⟨k1, k2⟩ := hc (j / 2) hi
  obtain ⟨m1, m2⟩ := flatP_get ps (j / 2) hi
  rw [Addr.add_lit]
  rcases Nat.mod_two_eq_zero_or_one j with h0 | h0
  · have e3 : j / 2 * 2 = j := by omega
    rw [e3] at k1 m1
    rw [m1] at hj
    rw [← Option.some.inj hj]
    exact k1
  · have e3 : j / 2 * 2 + 1 = j := by omega
    rw [Nat.add_assoc, e3] at k2
    rw [e3] at m2
    rw [m2] at hj
    rw [← Option.some.inj hj]
    exact k2
theorem pairs_nil {w : World} {B n c : Nat} {ps : List Pr} (h : Pairs w B (.slice none n c) ps) : n = 0 ∧ ps = [] := by
  obtain ⟨a, c2, e, -, -, h3⟩ := h
  simp only [Value.slice.injEq] at e
  obtain ⟨rfl, rfl, rfl⟩ := e
  by_cases hp : 0 < ps.length
  · obtain ⟨b, off, e2, -⟩ := h3 hp
    cases e2
  · exact ⟨by omega, List.eq_nil_of_length_eq_zero (by omega)⟩
theorem own_empty (w : World) (base : Nat) (e : TypeId) (size : Nat) (hb : base ≤ w.heap.size) : (w.alloc (.cells #[] e)).ownsRow base e size (.slice (some ⟨w.heap.size, 0, none⟩) 0 0) 0 [] :=
  ⟨by simp, .inr ⟨w.heap.size, 0, #[], rfl, hb, heap_alloc_new w _, Nat.le_refl _, by unfold maxLen; omega, by simp, by simp⟩⟩
theorem info_pair : (Try.prog.info? 29).map (fun i => (i.zero, i.size, i.bytes)) = some (some (.agg #[.string ByteArray.empty, .string ByteArray.empty]), 2, 32) := by kernel_rfl
theorem len_facts {q : Nat} (h : q * 32 ≤ reachBytes) : 0 + q ≤ maxLen ∧ (0 + q) * 32 ≤ 140737488355328 ∧ 0 + 1 ≤ maxLen ∧ (0 + 1) * 32 ≤ 140737488355328 ∧ 0 + q + 1 ≤ maxLen ∧ (0 + q + 1) * 32 ≤ 140737488355328 := by
  simp only [reachBytes] at h
  have h2 : q ≤ 4398046511103 := by omega
  unfold maxLen
  refine ⟨?_, ?_, ?_, ?_, ?_, ?_⟩ <;> omega
theorem own_slice {w : World} {base : Nat} {e : TypeId} {size : Nat} {v : Value} {n : Nat} {xs : List Value} (h : w.ownsRow base e size v n xs) : ∃ a c, v = .slice a n c := by
  obtain ⟨h1, h2⟩ := h
  rcases h2 with ⟨rfl, rfl⟩ | ⟨g, cap, cur, rfl, -⟩
  · exact ⟨none, 0, rfl⟩
  · exact ⟨_, _, rfl⟩
theorem len_snoc {l : List Pr} {p : Pr} (h : l.length * 32 ≤ reachBytes) : (l ++ [p]).length ≤ 4611686018427387904 := by
  simp only [reachBytes] at h
  rw [List.length_append, List.length_singleton]
  omega
theorem pairs_tail {w : World} {B n c b off : Nat} {ps : List Pr} (h : Pairs w B (.slice (some ⟨b, off, none⟩) n c) ps) (h0 : 0 < n) : Pairs w B (.slice (some ⟨b, off + 2, none⟩) (n - 1) (c - 1)) (ps.drop 1) := by
  obtain ⟨a, c2, e, hl, hs, h3⟩ := h
  simp only [Value.slice.injEq] at e
  obtain ⟨rfl, rfl, rfl⟩ := e
  obtain ⟨b2, off2, e2, hb, hc⟩ := h3 h0
  cases e2
  refine ⟨_, _, by rw [List.length_drop], by rw [List.length_drop]; omega, fun p hp => hs p (List.mem_of_mem_drop hp), fun hp => ⟨b, off + 2, rfl, hb, fun i hi => ?_⟩⟩
  rw [List.length_drop] at hi
  obtain ⟨k1, k2⟩ := hc (i + 1) (by omega)
  have e : (ps.drop 1)[i] = ps[i + 1] := List.getElem_drop.trans (getElem_congr_idx (Nat.add_comm 1 i))
  rw [e, show off + 2 + i * 2 = off + (i + 1) * 2 by omega]
  exact ⟨k1, k2⟩
theorem pairs_zero {w : World} {B n c c2 : Nat} {ad a : Option Addr} {ps : List Pr} (h : Pairs w B (.slice ad n c) ps) (h1 : n = 1) : Pairs w B (.slice a 0 c2) (ps.drop 1) := by
  obtain ⟨_, _, e, hl, hs, h3⟩ := h
  simp only [Value.slice.injEq] at e
  obtain ⟨rfl, rfl, rfl⟩ := e
  have h0 : ps.drop 1 = [] := List.eq_nil_of_length_eq_zero (by rw [List.length_drop]; omega)
  rw [h0]
  exact ⟨_, _, rfl, by simp, by simp, fun hp => absurd hp (by simp)⟩
theorem bk_task {z : World} {g : Nat} {xn xg xa : ByteArray} {x0 x1 x2 xr : Int} {xwa xba : Option Addr} {xwn xwc xbn xbc : Nat} (h : Bk z g 25 #[.string xn, .int .i64 x0, .int .i64 x1, .int .i64 x2, .slice xwa xwn xwc, .slice xba xbn xbc, .string xg, .string xa, .int .i64 xr]) : z.cell? ⟨g, 0, none⟩ = some (.string xn) ∧ z.cell? ⟨g, 1, none⟩ = some (.int .i64 x0) ∧ z.cell? ⟨g, 2, none⟩ = some (.int .i64 x1) ∧ z.cell? ⟨g, 3, none⟩ = some (.int .i64 x2) ∧ z.cell? ⟨g, 4, none⟩ = some (.slice xwa xwn xwc) ∧ z.cell? ⟨g, 5, none⟩ = some (.slice xba xbn xbc) ∧ z.cell? ⟨g, 6, none⟩ = some (.string xg) ∧ z.cell? ⟨g, 7, none⟩ = some (.string xa) ∧ z.cell? ⟨g, 8, none⟩ = some (.int .i64 xr) := ⟨h.cell 0, h.cell 1, h.cell 2, h.cell 3, h.cell 4, h.cell 5, h.cell 6, h.cell 7, h.cell 8⟩
theorem pairs_addr {w : World} {B n c : Nat} {a : Option Addr} {ps : List Pr} (h : Pairs w B (.slice a n c) ps) (h0 : 0 < n) : ∃ b off, a = some ⟨b, off, none⟩ := by
  obtain ⟨_, _, e, hl, hs, h3⟩ := h
  simp only [Value.slice.injEq] at e
  obtain ⟨rfl, rfl, rfl⟩ := e
  obtain ⟨b, off, e2, -, -⟩ := h3 h0
  exact ⟨b, off, e2⟩
theorem pair_new (z : World) (mk mv : ByteArray) : ∀ j u, ([.string mk, .string mv] : List Value)[j]? = some u → (z.alloc (.cells #[.string mk, .string mv] 29)).cell? ((⟨z.heap.size, 0, none⟩ : Addr).add j) = some u := by
  intro j u hj
  rw [Addr.add_lit, Bk.cell (Bk.new z 29 #[.string mk, .string mv])]
  rw [← hj]
  simp
theorem pair_one (mk mv : ByteArray) : ∀ u ∈ ([.string mk, .string mv] : List Value), u.oneCell' = true := by
  intro u hu
  simp at hu
  rcases hu with rfl | rfl <;> rfl
theorem cell_older {z : World} {p : Addr} {u : Value} (o : Obj) (h : z.cell? p = some u) : (z.alloc o).cell? p = some u := by
  rw [World.cell?_alloc_lt z o p ?_]
  · exact h
  · unfold World.cell? at h
    rcases Nat.lt_or_ge p.block z.heap.size with h1 | h1
    · exact h1
    · rw [Array.getElem?_eq_none h1] at h; simp at h
def S5 (w : World) (xn xg xa : ByteArray) (x0 x1 x2 xr : Int) (xwa xba : Option Addr) (xwn xwc xbn xbc : Nat) (yn : ByteArray) (y0 y1 y2 : Int) (yla yta : Option Addr) (yln ylc ytn ytc : Nat) (mk mv : ByteArray) (u0 u1 u2 n0 n1 n2 : Int) (z : World) : Prop := (z.cell? ⟨w.heap.size, 0, none⟩ = some (.string xn) ∧ z.cell? ⟨w.heap.size, 1, none⟩ = some (.int .i64 x0) ∧ z.cell? ⟨w.heap.size, 2, none⟩ = some (.int .i64 x1) ∧ z.cell? ⟨w.heap.size, 3, none⟩ = some (.int .i64 x2) ∧ z.cell? ⟨w.heap.size, 4, none⟩ = some (.slice xwa xwn xwc) ∧ z.cell? ⟨w.heap.size, 5, none⟩ = some (.slice xba xbn xbc) ∧ z.cell? ⟨w.heap.size, 6, none⟩ = some (.string xg) ∧ z.cell? ⟨w.heap.size, 7, none⟩ = some (.string xa) ∧ z.cell? ⟨w.heap.size, 8, none⟩ = some (.int .i64 xr) ∧ z.cell? ⟨w.heap.size + 1, 0, none⟩ = some (.string yn) ∧ z.cell? ⟨w.heap.size + 1, 1, none⟩ = some (.int .i64 y0) ∧ z.cell? ⟨w.heap.size + 1, 2, none⟩ = some (.int .i64 y1) ∧ z.cell? ⟨w.heap.size + 1, 3, none⟩ = some (.int .i64 y2) ∧ z.cell? ⟨w.heap.size + 1, 4, none⟩ = some (.slice yla yln ylc) ∧ z.cell? ⟨w.heap.size + 1, 5, none⟩ = some (.slice yta ytn ytc) ∧ z.cell? ⟨w.heap.size + 2, 0, none⟩ = some (.string mk) ∧ z.cell? ⟨w.heap.size + 2, 1, none⟩ = some (.string mv) ∧ z.cell? ⟨w.heap.size + 3, 0, none⟩ = some (.int .i64 u0) ∧ z.cell? ⟨w.heap.size + 3, 1, none⟩ = some (.int .i64 u1) ∧ z.cell? ⟨w.heap.size + 3, 2, none⟩ = some (.int .i64 u2) ∧ z.cell? ⟨w.heap.size + 4, 0, none⟩ = some (.int .i64 n0) ∧ z.cell? ⟨w.heap.size + 4, 1, none⟩ = some (.int .i64 n1) ∧ z.cell? ⟨w.heap.size + 4, 2, none⟩ = some (.int .i64 n2) ∧ Hid (Below w.heap.size w z ∧ w.heap.size + 5 ≤ z.heap.size))
set_option maxRecDepth 100000 in
set_option maxHeartbeats 20000000 in
theorem rigLess (xn xg xa : ByteArray) (x0 x1 x2 xr : Int) (xwa xba : Option Addr) (xwn xwc xbn xbc : Nat) (yn : ByteArray) (y0 y1 y2 : Int) (yla yta : Option Addr) (yln ylc ytn ytc : Nat) (mk mv : ByteArray) (u0 u1 u2 n0 n1 n2 kind : Int) (ws bs ls ts : List Pr) (w : World) (h1 : Pairs w w.heap.size (.slice xwa xwn xwc) ws) (h2 : Pairs w w.heap.size (.slice xba xbn xbc) bs)
    (h3 : Pairs w w.heap.size (.slice yla yln ylc) ls) (h4 : Pairs w w.heap.size (.slice yta ytn ytc) ts) (hmk : mk.size ≤ maxLen) (hmv : mv.size ≤ maxLen) (hk0 : 0 ≤ kind) (hk1 : kind ≤ 255) (hwn : ws.length = xwn) (hwc : xwn ≤ xwc ∧ xwc ≤ maxLen) (hbl : bs.length * 32 ≤ reachBytes) :
    Calls Try.prog 3 #[.agg #[.string xn, .int .i64 x0, .int .i64 x1, .int .i64 x2, .slice xwa xwn xwc, .slice xba xbn xbc, .string xg, .string xa, .int .i64 xr], .agg #[.string yn, .int .i64 y0, .int .i64 y1, .int .i64 y2, .slice yla yln ylc, .slice yta ytn ytc], .agg #[.string mk, .string mv], .agg #[.int .i64 u0, .int .i64 u1, .int .i64 u2], .agg #[.int .i64 n0, .int .i64 n1, .int .i64 n2], .int .u8 kind] w fun e w' => e = .returned (.bool true) ∧ Below w.heap.size w w' := by
  have H1 := Lib.hid h1
  have H2 := Lib.hid h2
  have H3 := Lib.hid h3
  have H4 := Lib.hid h4
  have HX := Lib.hid (And.intro hmk (And.intro hmv (And.intro hwn (And.intro hwc hbl))))
  have HK := Lib.hid (And.intro hk0 hk1)
  clear h1 h2 h3 h4 hmk hmv hwn hwc hbl hk0 hk1
  have L0 : Hid (∀ z z', (z.cell? ⟨w.heap.size, 0, none⟩ = some (.string xn) ∧ z.cell? ⟨w.heap.size, 1, none⟩ = some (.int .i64 x0) ∧ z.cell? ⟨w.heap.size, 2, none⟩ = some (.int .i64 x1) ∧ z.cell? ⟨w.heap.size, 3, none⟩ = some (.int .i64 x2) ∧ z.cell? ⟨w.heap.size, 4, none⟩ = some (.slice xwa xwn xwc) ∧ z.cell? ⟨w.heap.size, 5, none⟩ = some (.slice xba xbn xbc) ∧ z.cell? ⟨w.heap.size, 6, none⟩ = some (.string xg) ∧ z.cell? ⟨w.heap.size, 7, none⟩ = some (.string xa) ∧ z.cell? ⟨w.heap.size, 8, none⟩ = some (.int .i64 xr) ∧ z.cell? ⟨w.heap.size + 1, 0, none⟩ = some (.string yn) ∧ z.cell? ⟨w.heap.size + 1, 1, none⟩ = some (.int .i64 y0) ∧ z.cell? ⟨w.heap.size + 1, 2, none⟩ = some (.int .i64 y1) ∧ z.cell? ⟨w.heap.size + 1, 3, none⟩ = some (.int .i64 y2) ∧ z.cell? ⟨w.heap.size + 1, 4, none⟩ = some (.slice yla yln ylc) ∧ z.cell? ⟨w.heap.size + 1, 5, none⟩ = some (.slice yta ytn ytc) ∧ z.cell? ⟨w.heap.size + 2, 0, none⟩ = some (.string mk) ∧ z.cell? ⟨w.heap.size + 2, 1, none⟩ = some (.string mv) ∧ z.cell? ⟨w.heap.size + 3, 0, none⟩ = some (.int .i64 u0) ∧ z.cell? ⟨w.heap.size + 3, 1, none⟩ = some (.int .i64 u1) ∧ z.cell? ⟨w.heap.size + 3, 2, none⟩ = some (.int .i64 u2) ∧ z.cell? ⟨w.heap.size + 4, 0, none⟩ = some (.int .i64 n0) ∧ z.cell? ⟨w.heap.size + 4, 1, none⟩ = some (.int .i64 n1) ∧ z.cell? ⟨w.heap.size + 4, 2, none⟩ = some (.int .i64 n2) ∧ Hid (Below w.heap.size w z ∧ w.heap.size + 5 ≤ z.heap.size)) → Below (w.heap.size + 5) z z' → (z'.cell? ⟨w.heap.size, 0, none⟩ = some (.string xn) ∧ z'.cell? ⟨w.heap.size, 1, none⟩ = some (.int .i64 x0) ∧ z'.cell? ⟨w.heap.size, 2, none⟩ = some (.int .i64 x1) ∧ z'.cell? ⟨w.heap.size, 3, none⟩ = some (.int .i64 x2) ∧ z'.cell? ⟨w.heap.size, 4, none⟩ = some (.slice xwa xwn xwc) ∧ z'.cell? ⟨w.heap.size, 5, none⟩ = some (.slice xba xbn xbc) ∧ z'.cell? ⟨w.heap.size, 6, none⟩ = some (.string xg) ∧ z'.cell? ⟨w.heap.size, 7, none⟩ = some (.string xa) ∧ z'.cell? ⟨w.heap.size, 8, none⟩ = some (.int .i64 xr) ∧ z'.cell? ⟨w.heap.size + 1, 0, none⟩ = some (.string yn) ∧ z'.cell? ⟨w.heap.size + 1, 1, none⟩ = some (.int .i64 y0) ∧ z'.cell? ⟨w.heap.size + 1, 2, none⟩ = some (.int .i64 y1) ∧ z'.cell? ⟨w.heap.size + 1, 3, none⟩ = some (.int .i64 y2) ∧ z'.cell? ⟨w.heap.size + 1, 4, none⟩ = some (.slice yla yln ylc) ∧ z'.cell? ⟨w.heap.size + 1, 5, none⟩ = some (.slice yta ytn ytc) ∧ z'.cell? ⟨w.heap.size + 2, 0, none⟩ = some (.string mk) ∧ z'.cell? ⟨w.heap.size + 2, 1, none⟩ = some (.string mv) ∧ z'.cell? ⟨w.heap.size + 3, 0, none⟩ = some (.int .i64 u0) ∧ z'.cell? ⟨w.heap.size + 3, 1, none⟩ = some (.int .i64 u1) ∧ z'.cell? ⟨w.heap.size + 3, 2, none⟩ = some (.int .i64 u2) ∧ z'.cell? ⟨w.heap.size + 4, 0, none⟩ = some (.int .i64 n0) ∧ z'.cell? ⟨w.heap.size + 4, 1, none⟩ = some (.int .i64 n1) ∧ z'.cell? ⟨w.heap.size + 4, 2, none⟩ = some (.int .i64 n2) ∧ Hid (Below w.heap.size w z' ∧ w.heap.size + 5 ≤ z'.heap.size))) := by
    intro z z' h hb
    obtain ⟨a0, a1, a2, a3, a4, a5, a6, a7, a8, b0, b1, b2, b3, b4, b5, c0, c1, d0, d1, d2, e0, e1, e2, hS⟩ := h
    have k0 : ∀ i, z'.cell? ⟨w.heap.size, i, none⟩ = z.cell? ⟨w.heap.size, i, none⟩ := fun i => hb.cell (by show w.heap.size < _; omega)
    have k1 : ∀ i, z'.cell? ⟨w.heap.size + 1, i, none⟩ = z.cell? ⟨w.heap.size + 1, i, none⟩ := fun i => hb.cell (by show w.heap.size + 1 < _; omega)
    have k2 : ∀ i, z'.cell? ⟨w.heap.size + 2, i, none⟩ = z.cell? ⟨w.heap.size + 2, i, none⟩ := fun i => hb.cell (by show w.heap.size + 2 < _; omega)
    have k3 : ∀ i, z'.cell? ⟨w.heap.size + 3, i, none⟩ = z.cell? ⟨w.heap.size + 3, i, none⟩ := fun i => hb.cell (by show w.heap.size + 3 < _; omega)
    have k4 : ∀ i, z'.cell? ⟨w.heap.size + 4, i, none⟩ = z.cell? ⟨w.heap.size + 4, i, none⟩ := fun i => hb.cell (by show w.heap.size + 4 < _; omega)
    have hE : Hid (Below w.heap.size w z' ∧ w.heap.size + 5 ≤ z'.heap.size) := ⟨hS.out.1.trans (hb.mono (by omega)), by have := hb.size; have := hS.out.2; omega⟩
    simp only [k0, k1, k2, k3, k4]
    exact ⟨a0, a1, a2, a3, a4, a5, a6, a7, a8, b0, b1, b2, b3, b4, b5, c0, c1, d0, d1, d2, e0, e1, e2, hE⟩
  have KB : Hid (∀ z, (z.cell? ⟨w.heap.size, 0, none⟩ = some (.string xn) ∧ z.cell? ⟨w.heap.size, 1, none⟩ = some (.int .i64 x0) ∧ z.cell? ⟨w.heap.size, 2, none⟩ = some (.int .i64 x1) ∧ z.cell? ⟨w.heap.size, 3, none⟩ = some (.int .i64 x2) ∧ z.cell? ⟨w.heap.size, 4, none⟩ = some (.slice xwa xwn xwc) ∧ z.cell? ⟨w.heap.size, 5, none⟩ = some (.slice xba xbn xbc) ∧ z.cell? ⟨w.heap.size, 6, none⟩ = some (.string xg) ∧ z.cell? ⟨w.heap.size, 7, none⟩ = some (.string xa) ∧ z.cell? ⟨w.heap.size, 8, none⟩ = some (.int .i64 xr) ∧ z.cell? ⟨w.heap.size + 1, 0, none⟩ = some (.string yn) ∧ z.cell? ⟨w.heap.size + 1, 1, none⟩ = some (.int .i64 y0) ∧ z.cell? ⟨w.heap.size + 1, 2, none⟩ = some (.int .i64 y1) ∧ z.cell? ⟨w.heap.size + 1, 3, none⟩ = some (.int .i64 y2) ∧ z.cell? ⟨w.heap.size + 1, 4, none⟩ = some (.slice yla yln ylc) ∧ z.cell? ⟨w.heap.size + 1, 5, none⟩ = some (.slice yta ytn ytc) ∧ z.cell? ⟨w.heap.size + 2, 0, none⟩ = some (.string mk) ∧ z.cell? ⟨w.heap.size + 2, 1, none⟩ = some (.string mv) ∧ z.cell? ⟨w.heap.size + 3, 0, none⟩ = some (.int .i64 u0) ∧ z.cell? ⟨w.heap.size + 3, 1, none⟩ = some (.int .i64 u1) ∧ z.cell? ⟨w.heap.size + 3, 2, none⟩ = some (.int .i64 u2) ∧ z.cell? ⟨w.heap.size + 4, 0, none⟩ = some (.int .i64 n0) ∧ z.cell? ⟨w.heap.size + 4, 1, none⟩ = some (.int .i64 n1) ∧ z.cell? ⟨w.heap.size + 4, 2, none⟩ = some (.int .i64 n2) ∧ Hid (Below w.heap.size w z ∧ w.heap.size + 5 ≤ z.heap.size)) → Below w.heap.size w z ∧ w.heap.size + 5 ≤ z.heap.size) := by
    intro z h
    obtain ⟨a0, a1, a2, a3, a4, a5, a6, a7, a8, b0, b1, b2, b3, b4, b5, c0, c1, d0, d1, d2, e0, e1, e2, hS⟩ := h
    exact hS.out
  have HS0 : Hid ((((((w.alloc (.cells #[.string xn, .int .i64 x0, .int .i64 x1, .int .i64 x2, .slice xwa xwn xwc, .slice xba xbn xbc, .string xg, .string xa, .int .i64 xr] 25)).alloc (.cells #[.string yn, .int .i64 y0, .int .i64 y1, .int .i64 y2, .slice yla yln ylc, .slice yta ytn ytc] 27)).alloc (.cells #[.string mk, .string mv] 29)).alloc (.cells #[.int .i64 u0, .int .i64 u1, .int .i64 u2] 22)).alloc (.cells #[.int .i64 n0, .int .i64 n1, .int .i64 n2] 22)).cell? ⟨w.heap.size, 0, none⟩ = some (.string xn) ∧ (((((w.alloc (.cells #[.string xn, .int .i64 x0, .int .i64 x1, .int .i64 x2, .slice xwa xwn xwc, .slice xba xbn xbc, .string xg, .string xa, .int .i64 xr] 25)).alloc (.cells #[.string yn, .int .i64 y0, .int .i64 y1, .int .i64 y2, .slice yla yln ylc, .slice yta ytn ytc] 27)).alloc (.cells #[.string mk, .string mv] 29)).alloc (.cells #[.int .i64 u0, .int .i64 u1, .int .i64 u2] 22)).alloc (.cells #[.int .i64 n0, .int .i64 n1, .int .i64 n2] 22)).cell? ⟨w.heap.size, 1, none⟩ = some (.int .i64 x0) ∧ (((((w.alloc (.cells #[.string xn, .int .i64 x0, .int .i64 x1, .int .i64 x2, .slice xwa xwn xwc, .slice xba xbn xbc, .string xg, .string xa, .int .i64 xr] 25)).alloc (.cells #[.string yn, .int .i64 y0, .int .i64 y1, .int .i64 y2, .slice yla yln ylc, .slice yta ytn ytc] 27)).alloc (.cells #[.string mk, .string mv] 29)).alloc (.cells #[.int .i64 u0, .int .i64 u1, .int .i64 u2] 22)).alloc (.cells #[.int .i64 n0, .int .i64 n1, .int .i64 n2] 22)).cell? ⟨w.heap.size, 2, none⟩ = some (.int .i64 x1) ∧ (((((w.alloc (.cells #[.string xn, .int .i64 x0, .int .i64 x1, .int .i64 x2, .slice xwa xwn xwc, .slice xba xbn xbc, .string xg, .string xa, .int .i64 xr] 25)).alloc (.cells #[.string yn, .int .i64 y0, .int .i64 y1, .int .i64 y2, .slice yla yln ylc, .slice yta ytn ytc] 27)).alloc (.cells #[.string mk, .string mv] 29)).alloc (.cells #[.int .i64 u0, .int .i64 u1, .int .i64 u2] 22)).alloc (.cells #[.int .i64 n0, .int .i64 n1, .int .i64 n2] 22)).cell? ⟨w.heap.size, 3, none⟩ = some (.int .i64 x2) ∧ (((((w.alloc (.cells #[.string xn, .int .i64 x0, .int .i64 x1, .int .i64 x2, .slice xwa xwn xwc, .slice xba xbn xbc, .string xg, .string xa, .int .i64 xr] 25)).alloc (.cells #[.string yn, .int .i64 y0, .int .i64 y1, .int .i64 y2, .slice yla yln ylc, .slice yta ytn ytc] 27)).alloc (.cells #[.string mk, .string mv] 29)).alloc (.cells #[.int .i64 u0, .int .i64 u1, .int .i64 u2] 22)).alloc (.cells #[.int .i64 n0, .int .i64 n1, .int .i64 n2] 22)).cell? ⟨w.heap.size, 4, none⟩ = some (.slice xwa xwn xwc) ∧ (((((w.alloc (.cells #[.string xn, .int .i64 x0, .int .i64 x1, .int .i64 x2, .slice xwa xwn xwc, .slice xba xbn xbc, .string xg, .string xa, .int .i64 xr] 25)).alloc (.cells #[.string yn, .int .i64 y0, .int .i64 y1, .int .i64 y2, .slice yla yln ylc, .slice yta ytn ytc] 27)).alloc (.cells #[.string mk, .string mv] 29)).alloc (.cells #[.int .i64 u0, .int .i64 u1, .int .i64 u2] 22)).alloc (.cells #[.int .i64 n0, .int .i64 n1, .int .i64 n2] 22)).cell? ⟨w.heap.size, 5, none⟩ = some (.slice xba xbn xbc) ∧ (((((w.alloc (.cells #[.string xn, .int .i64 x0, .int .i64 x1, .int .i64 x2, .slice xwa xwn xwc, .slice xba xbn xbc, .string xg, .string xa, .int .i64 xr] 25)).alloc (.cells #[.string yn, .int .i64 y0, .int .i64 y1, .int .i64 y2, .slice yla yln ylc, .slice yta ytn ytc] 27)).alloc (.cells #[.string mk, .string mv] 29)).alloc (.cells #[.int .i64 u0, .int .i64 u1, .int .i64 u2] 22)).alloc (.cells #[.int .i64 n0, .int .i64 n1, .int .i64 n2] 22)).cell? ⟨w.heap.size, 6, none⟩ = some (.string xg) ∧ (((((w.alloc (.cells #[.string xn, .int .i64 x0, .int .i64 x1, .int .i64 x2, .slice xwa xwn xwc, .slice xba xbn xbc, .string xg, .string xa, .int .i64 xr] 25)).alloc (.cells #[.string yn, .int .i64 y0, .int .i64 y1, .int .i64 y2, .slice yla yln ylc, .slice yta ytn ytc] 27)).alloc (.cells #[.string mk, .string mv] 29)).alloc (.cells #[.int .i64 u0, .int .i64 u1, .int .i64 u2] 22)).alloc (.cells #[.int .i64 n0, .int .i64 n1, .int .i64 n2] 22)).cell? ⟨w.heap.size, 7, none⟩ = some (.string xa) ∧ (((((w.alloc (.cells #[.string xn, .int .i64 x0, .int .i64 x1, .int .i64 x2, .slice xwa xwn xwc, .slice xba xbn xbc, .string xg, .string xa, .int .i64 xr] 25)).alloc (.cells #[.string yn, .int .i64 y0, .int .i64 y1, .int .i64 y2, .slice yla yln ylc, .slice yta ytn ytc] 27)).alloc (.cells #[.string mk, .string mv] 29)).alloc (.cells #[.int .i64 u0, .int .i64 u1, .int .i64 u2] 22)).alloc (.cells #[.int .i64 n0, .int .i64 n1, .int .i64 n2] 22)).cell? ⟨w.heap.size, 8, none⟩ = some (.int .i64 xr) ∧ (((((w.alloc (.cells #[.string xn, .int .i64 x0, .int .i64 x1, .int .i64 x2, .slice xwa xwn xwc, .slice xba xbn xbc, .string xg, .string xa, .int .i64 xr] 25)).alloc (.cells #[.string yn, .int .i64 y0, .int .i64 y1, .int .i64 y2, .slice yla yln ylc, .slice yta ytn ytc] 27)).alloc (.cells #[.string mk, .string mv] 29)).alloc (.cells #[.int .i64 u0, .int .i64 u1, .int .i64 u2] 22)).alloc (.cells #[.int .i64 n0, .int .i64 n1, .int .i64 n2] 22)).cell? ⟨w.heap.size + 1, 0, none⟩ = some (.string yn) ∧ (((((w.alloc (.cells #[.string xn, .int .i64 x0, .int .i64 x1, .int .i64 x2, .slice xwa xwn xwc, .slice xba xbn xbc, .string xg, .string xa, .int .i64 xr] 25)).alloc (.cells #[.string yn, .int .i64 y0, .int .i64 y1, .int .i64 y2, .slice yla yln ylc, .slice yta ytn ytc] 27)).alloc (.cells #[.string mk, .string mv] 29)).alloc (.cells #[.int .i64 u0, .int .i64 u1, .int .i64 u2] 22)).alloc (.cells #[.int .i64 n0, .int .i64 n1, .int .i64 n2] 22)).cell? ⟨w.heap.size + 1, 1, none⟩ = some (.int .i64 y0) ∧ (((((w.alloc (.cells #[.string xn, .int .i64 x0, .int .i64 x1, .int .i64 x2, .slice xwa xwn xwc, .slice xba xbn xbc, .string xg, .string xa, .int .i64 xr] 25)).alloc (.cells #[.string yn, .int .i64 y0, .int .i64 y1, .int .i64 y2, .slice yla yln ylc, .slice yta ytn ytc] 27)).alloc (.cells #[.string mk, .string mv] 29)).alloc (.cells #[.int .i64 u0, .int .i64 u1, .int .i64 u2] 22)).alloc (.cells #[.int .i64 n0, .int .i64 n1, .int .i64 n2] 22)).cell? ⟨w.heap.size + 1, 2, none⟩ = some (.int .i64 y1) ∧ (((((w.alloc (.cells #[.string xn, .int .i64 x0, .int .i64 x1, .int .i64 x2, .slice xwa xwn xwc, .slice xba xbn xbc, .string xg, .string xa, .int .i64 xr] 25)).alloc (.cells #[.string yn, .int .i64 y0, .int .i64 y1, .int .i64 y2, .slice yla yln ylc, .slice yta ytn ytc] 27)).alloc (.cells #[.string mk, .string mv] 29)).alloc (.cells #[.int .i64 u0, .int .i64 u1, .int .i64 u2] 22)).alloc (.cells #[.int .i64 n0, .int .i64 n1, .int .i64 n2] 22)).cell? ⟨w.heap.size + 1, 3, none⟩ = some (.int .i64 y2) ∧ (((((w.alloc (.cells #[.string xn, .int .i64 x0, .int .i64 x1, .int .i64 x2, .slice xwa xwn xwc, .slice xba xbn xbc, .string xg, .string xa, .int .i64 xr] 25)).alloc (.cells #[.string yn, .int .i64 y0, .int .i64 y1, .int .i64 y2, .slice yla yln ylc, .slice yta ytn ytc] 27)).alloc (.cells #[.string mk, .string mv] 29)).alloc (.cells #[.int .i64 u0, .int .i64 u1, .int .i64 u2] 22)).alloc (.cells #[.int .i64 n0, .int .i64 n1, .int .i64 n2] 22)).cell? ⟨w.heap.size + 1, 4, none⟩ = some (.slice yla yln ylc) ∧ (((((w.alloc (.cells #[.string xn, .int .i64 x0, .int .i64 x1, .int .i64 x2, .slice xwa xwn xwc, .slice xba xbn xbc, .string xg, .string xa, .int .i64 xr] 25)).alloc (.cells #[.string yn, .int .i64 y0, .int .i64 y1, .int .i64 y2, .slice yla yln ylc, .slice yta ytn ytc] 27)).alloc (.cells #[.string mk, .string mv] 29)).alloc (.cells #[.int .i64 u0, .int .i64 u1, .int .i64 u2] 22)).alloc (.cells #[.int .i64 n0, .int .i64 n1, .int .i64 n2] 22)).cell? ⟨w.heap.size + 1, 5, none⟩ = some (.slice yta ytn ytc) ∧ (((((w.alloc (.cells #[.string xn, .int .i64 x0, .int .i64 x1, .int .i64 x2, .slice xwa xwn xwc, .slice xba xbn xbc, .string xg, .string xa, .int .i64 xr] 25)).alloc (.cells #[.string yn, .int .i64 y0, .int .i64 y1, .int .i64 y2, .slice yla yln ylc, .slice yta ytn ytc] 27)).alloc (.cells #[.string mk, .string mv] 29)).alloc (.cells #[.int .i64 u0, .int .i64 u1, .int .i64 u2] 22)).alloc (.cells #[.int .i64 n0, .int .i64 n1, .int .i64 n2] 22)).cell? ⟨w.heap.size + 2, 0, none⟩ = some (.string mk) ∧ (((((w.alloc (.cells #[.string xn, .int .i64 x0, .int .i64 x1, .int .i64 x2, .slice xwa xwn xwc, .slice xba xbn xbc, .string xg, .string xa, .int .i64 xr] 25)).alloc (.cells #[.string yn, .int .i64 y0, .int .i64 y1, .int .i64 y2, .slice yla yln ylc, .slice yta ytn ytc] 27)).alloc (.cells #[.string mk, .string mv] 29)).alloc (.cells #[.int .i64 u0, .int .i64 u1, .int .i64 u2] 22)).alloc (.cells #[.int .i64 n0, .int .i64 n1, .int .i64 n2] 22)).cell? ⟨w.heap.size + 2, 1, none⟩ = some (.string mv) ∧ (((((w.alloc (.cells #[.string xn, .int .i64 x0, .int .i64 x1, .int .i64 x2, .slice xwa xwn xwc, .slice xba xbn xbc, .string xg, .string xa, .int .i64 xr] 25)).alloc (.cells #[.string yn, .int .i64 y0, .int .i64 y1, .int .i64 y2, .slice yla yln ylc, .slice yta ytn ytc] 27)).alloc (.cells #[.string mk, .string mv] 29)).alloc (.cells #[.int .i64 u0, .int .i64 u1, .int .i64 u2] 22)).alloc (.cells #[.int .i64 n0, .int .i64 n1, .int .i64 n2] 22)).cell? ⟨w.heap.size + 3, 0, none⟩ = some (.int .i64 u0) ∧ (((((w.alloc (.cells #[.string xn, .int .i64 x0, .int .i64 x1, .int .i64 x2, .slice xwa xwn xwc, .slice xba xbn xbc, .string xg, .string xa, .int .i64 xr] 25)).alloc (.cells #[.string yn, .int .i64 y0, .int .i64 y1, .int .i64 y2, .slice yla yln ylc, .slice yta ytn ytc] 27)).alloc (.cells #[.string mk, .string mv] 29)).alloc (.cells #[.int .i64 u0, .int .i64 u1, .int .i64 u2] 22)).alloc (.cells #[.int .i64 n0, .int .i64 n1, .int .i64 n2] 22)).cell? ⟨w.heap.size + 3, 1, none⟩ = some (.int .i64 u1) ∧ (((((w.alloc (.cells #[.string xn, .int .i64 x0, .int .i64 x1, .int .i64 x2, .slice xwa xwn xwc, .slice xba xbn xbc, .string xg, .string xa, .int .i64 xr] 25)).alloc (.cells #[.string yn, .int .i64 y0, .int .i64 y1, .int .i64 y2, .slice yla yln ylc, .slice yta ytn ytc] 27)).alloc (.cells #[.string mk, .string mv] 29)).alloc (.cells #[.int .i64 u0, .int .i64 u1, .int .i64 u2] 22)).alloc (.cells #[.int .i64 n0, .int .i64 n1, .int .i64 n2] 22)).cell? ⟨w.heap.size + 3, 2, none⟩ = some (.int .i64 u2) ∧ (((((w.alloc (.cells #[.string xn, .int .i64 x0, .int .i64 x1, .int .i64 x2, .slice xwa xwn xwc, .slice xba xbn xbc, .string xg, .string xa, .int .i64 xr] 25)).alloc (.cells #[.string yn, .int .i64 y0, .int .i64 y1, .int .i64 y2, .slice yla yln ylc, .slice yta ytn ytc] 27)).alloc (.cells #[.string mk, .string mv] 29)).alloc (.cells #[.int .i64 u0, .int .i64 u1, .int .i64 u2] 22)).alloc (.cells #[.int .i64 n0, .int .i64 n1, .int .i64 n2] 22)).cell? ⟨w.heap.size + 4, 0, none⟩ = some (.int .i64 n0) ∧ (((((w.alloc (.cells #[.string xn, .int .i64 x0, .int .i64 x1, .int .i64 x2, .slice xwa xwn xwc, .slice xba xbn xbc, .string xg, .string xa, .int .i64 xr] 25)).alloc (.cells #[.string yn, .int .i64 y0, .int .i64 y1, .int .i64 y2, .slice yla yln ylc, .slice yta ytn ytc] 27)).alloc (.cells #[.string mk, .string mv] 29)).alloc (.cells #[.int .i64 u0, .int .i64 u1, .int .i64 u2] 22)).alloc (.cells #[.int .i64 n0, .int .i64 n1, .int .i64 n2] 22)).cell? ⟨w.heap.size + 4, 1, none⟩ = some (.int .i64 n1) ∧ (((((w.alloc (.cells #[.string xn, .int .i64 x0, .int .i64 x1, .int .i64 x2, .slice xwa xwn xwc, .slice xba xbn xbc, .string xg, .string xa, .int .i64 xr] 25)).alloc (.cells #[.string yn, .int .i64 y0, .int .i64 y1, .int .i64 y2, .slice yla yln ylc, .slice yta ytn ytc] 27)).alloc (.cells #[.string mk, .string mv] 29)).alloc (.cells #[.int .i64 u0, .int .i64 u1, .int .i64 u2] 22)).alloc (.cells #[.int .i64 n0, .int .i64 n1, .int .i64 n2] 22)).cell? ⟨w.heap.size + 4, 2, none⟩ = some (.int .i64 n2) ∧ Hid (Below w.heap.size w (((((w.alloc (.cells #[.string xn, .int .i64 x0, .int .i64 x1, .int .i64 x2, .slice xwa xwn xwc, .slice xba xbn xbc, .string xg, .string xa, .int .i64 xr] 25)).alloc (.cells #[.string yn, .int .i64 y0, .int .i64 y1, .int .i64 y2, .slice yla yln ylc, .slice yta ytn ytc] 27)).alloc (.cells #[.string mk, .string mv] 29)).alloc (.cells #[.int .i64 u0, .int .i64 u1, .int .i64 u2] 22)).alloc (.cells #[.int .i64 n0, .int .i64 n1, .int .i64 n2] 22)) ∧ w.heap.size + 5 ≤ (((((w.alloc (.cells #[.string xn, .int .i64 x0, .int .i64 x1, .int .i64 x2, .slice xwa xwn xwc, .slice xba xbn xbc, .string xg, .string xa, .int .i64 xr] 25)).alloc (.cells #[.string yn, .int .i64 y0, .int .i64 y1, .int .i64 y2, .slice yla yln ylc, .slice yta ytn ytc] 27)).alloc (.cells #[.string mk, .string mv] 29)).alloc (.cells #[.int .i64 u0, .int .i64 u1, .int .i64 u2] 22)).alloc (.cells #[.int .i64 n0, .int .i64 n1, .int .i64 n2] 22)).heap.size)) := by
    have hE : Hid (Below w.heap.size w (((((w.alloc (.cells #[.string xn, .int .i64 x0, .int .i64 x1, .int .i64 x2, .slice xwa xwn xwc, .slice xba xbn xbc, .string xg, .string xa, .int .i64 xr] 25)).alloc (.cells #[.string yn, .int .i64 y0, .int .i64 y1, .int .i64 y2, .slice yla yln ylc, .slice yta ytn ytc] 27)).alloc (.cells #[.string mk, .string mv] 29)).alloc (.cells #[.int .i64 u0, .int .i64 u1, .int .i64 u2] 22)).alloc (.cells #[.int .i64 n0, .int .i64 n1, .int .i64 n2] 22)) ∧ w.heap.size + 5 ≤ (((((w.alloc (.cells #[.string xn, .int .i64 x0, .int .i64 x1, .int .i64 x2, .slice xwa xwn xwc, .slice xba xbn xbc, .string xg, .string xa, .int .i64 xr] 25)).alloc (.cells #[.string yn, .int .i64 y0, .int .i64 y1, .int .i64 y2, .slice yla yln ylc, .slice yta ytn ytc] 27)).alloc (.cells #[.string mk, .string mv] 29)).alloc (.cells #[.int .i64 u0, .int .i64 u1, .int .i64 u2] 22)).alloc (.cells #[.int .i64 n0, .int .i64 n1, .int .i64 n2] 22)).heap.size) :=
      ⟨(((two w _ _).alloc (by simp; omega) _).alloc (by simp; omega) _).alloc (by simp; omega) _, by simp⟩
    refine ⟨?_, ?_, ?_, ?_, ?_, ?_, ?_, ?_, ?_, ?_, ?_, ?_, ?_, ?_, ?_, ?_, ?_, ?_, ?_, ?_, ?_, ?_, ?_, hE⟩ <;> simp [go_sem]
  go_enter Try.func3, Try.ntmps3
  go_wp2_with fail
  refine (suits_true _).mono ?_
  rintro e w1 ⟨rfl, hb⟩
  have HS1 := Lib.hid (L0.out _ _ HS0.out (hb.mono (KB.out _ HS0.out).2))
  clear hb HS0
  go_wp2_with fail
  refine (rooms_true _).mono ?_
  rintro e w2 ⟨rfl, hb⟩
  have HS2 := Lib.hid (L0.out _ _ HS1.out (hb.mono (KB.out _ HS1.out).2))
  clear hb HS1
  obtain ⟨a0, a1, a2, a3, a4, a5, a6, a7, a8, b0, b1, b2, b3, b4, b5, c0, c1, d0, d1, d2, e0, e1, e2, -⟩ := HS2.out
  have hz2 := (KB.out _ HS2.out).2
  go_wp2_with fail
  refine (suits_any xn xg xa x0 x1 x2 xr xwa xba xwn xwc xbn xbc yn y0 y1 y2 yla yta yln ylc ytn ytc ws bs ls ts _ (H1.out.over (KB.out _ HS2.out).1) (H2.out.over (KB.out _ HS2.out).1) (H3.out.over (KB.out _ HS2.out).1) (H4.out.over (KB.out _ HS2.out).1)).mono ?_
  rintro e w3 ⟨rfl, hb⟩
  have HS3 := Lib.hid (L0.out _ _ HS2.out (hb.mono hz2))
  clear hb HS2 a0 a1 a2 a3 a4 a5 a6 a7 a8 b0 b1 b2 b3 b4 b5 c0 c1 d0 d1 d2 e0 e1 e2 hz2
  obtain ⟨a0, a1, a2, a3, a4, a5, a6, a7, a8, b0, b1, b2, b3, b4, b5, c0, c1, d0, d1, d2, e0, e1, e2, -⟩ := HS3.out
  have hz3 := (KB.out _ HS3.out).2
  generalize hr : suitB ws ls ts bs = r
  have HR := Lib.hid hr
  clear hr
  go_upto_if 24 with fail
  go_cut [] (fun wx => Aside (S5 w xn xg xa x0 x1 x2 xr xwa xba xwn xwc xbn xbc yn y0 y1 y2 yla yta yln ylc ytn ytc mk mv u0 u1 u2 n0 n1 n2 wx))
  case first =>
    cases r
    · go_wp2_with fail
      go_meet
      case rel => exact HS3.out
    · go_upto_region 4 with fail
      go_cut [13, 14] (fun s13 s14 wx => ∃ g3 g4 : Nat, s13 = .pointer (some ⟨g3, 0, none⟩) ∧ s14 = .pointer (some ⟨g4, 0, none⟩) ∧ Aside (g3 ≠ g4 ∧ w.heap.size + 5 ≤ g3 ∧ w.heap.size + 5 ≤ g4 ∧ Bk wx g3 25 #[.string xn, .int .i64 x0, .int .i64 x1, .int .i64 x2, .slice xwa xwn xwc, .slice xba xbn xbc, .string xg, .string xa, .int .i64 xr] ∧ Bk wx g4 25 #[.string xn, .int .i64 x0, .int .i64 x1, .int .i64 x2, .slice xwa xwn xwc, .slice xba xbn xbc, .string xg, .string xa, .int .i64 xr] ∧ Below (w.heap.size + 5) w3 wx))
      case first =>
        have A1 : ∀ o i, (w3.alloc o).cell? ⟨w.heap.size, i, none⟩ = w3.cell? ⟨w.heap.size, i, none⟩ := fun o i => World.cell?_alloc_lt w3 o ⟨w.heap.size, i, none⟩ (by show w.heap.size < _; omega)
        have A2 : ∀ o o' i, ((w3.alloc o).alloc o').cell? ⟨w.heap.size, i, none⟩ = w3.cell? ⟨w.heap.size, i, none⟩ := fun o o' i => (World.cell?_alloc_lt _ o' ⟨w.heap.size, i, none⟩ (by show w.heap.size < _; simp; omega)).trans (A1 o i)
        go_region
        all_goals
          go_wp2_with fail
          go_meet
          case rel => first
            | exact ⟨_, _, rfl, rfl, by omega, by omega, by omega, ((Bk.new _ _ _).alloc _).drew, (Bk.new1 _ _ _ _).drew, bdN (((Below.refl _ _).alloc (by omega) _).alloc (by simp; omega) _) 1⟩
            | exact ⟨_, _, rfl, rfl, by omega, by omega, by omega, (Bk.new1 _ _ _ _).drew, ((Bk.new _ _ _).alloc _).drew, bdN (((Below.refl _ _).alloc (by omega) _).alloc (by simp; omega) _) 1⟩
      case rest =>
        clear a0 a1 a2 a3 a4 a5 a6 a7 a8 b0 b1 b2 b3 b4 b5 c0 c1 d0 d1 d2 e0 e1 e2
        obtain ⟨g3, g4, rfl, rfl, HP⟩ := hcut
        have HSC := Lib.hid (L0.out _ _ HS3.out HP.out.2.2.2.2.2)
        go_upto_region 5 with fail
        go_cut [] (fun wx => ∃ (a9 : Option Addr) (c9 : Nat), Aside (Bk wx g3 25 #[.string xn, .int .i64 x0, .int .i64 x1, .int .i64 x2, .slice xwa xwn xwc, .slice xba xbn xbc, .string xg, .string xa, .int .i64 xr] ∧ Bk wx g4 25 #[.string xn, .int .i64 x0, .int .i64 x1, .int .i64 x2, .slice xwa xwn xwc, .slice a9 (bs.length + 1) c9, .string xg, .string xa, .int .i64 xr] ∧ Pairs wx wx.heap.size (.slice a9 (bs.length + 1) c9) (bs ++ [⟨mk, mv⟩]) ∧ (∀ u, Pairs (wx.setCell ⟨g3, 4, none⟩ u) (wx.setCell ⟨g3, 4, none⟩ u).heap.size (.slice a9 (bs.length + 1) c9) (bs ++ [⟨mk, mv⟩])) ∧ Below (w.heap.size + 5) wc wx))
        case first =>
          obtain ⟨i0, hi, hq0, hq1, hq2⟩ := info_parts info_pair
          obtain ⟨hn34, hg3, hg4, hB3, hB4, hbc⟩ := HP.out
          have hlt3 := hB3.lt
          have hlt4 := hB4.lt
          have hzc := (KB.out _ HSC.out).2
          have HQ : Hid (wc.cell? ⟨w.heap.size, 5, none⟩ = some (.slice xba xbn xbc) ∧ wc.cell? ⟨w.heap.size + 1 + 1, 0, none⟩ = some (.string mk) ∧ wc.cell? ⟨w.heap.size + 1 + 1, 1, none⟩ = some (.string mv) ∧ wc.cell? ⟨g4, 5, none⟩ = some (.slice xba xbn xbc) ∧ wc.frozen? ⟨g4, 5, none⟩ = false) := by
            obtain ⟨a0, a1, a2, a3, a4, a5, a6, a7, a8, b0, b1, b2, b3, b4, b5, c0, c1, d0, d1, d2, e0, e1, e2, -⟩ := HSC.out
            exact ⟨a5, c0, c1, hB4.cell 5, hB4.frozen 5⟩
          obtain ⟨hm0, hm3, hm4, hm5, hm6, hm7⟩ := len_facts HX.out.2.2.2.2
          have hBB := Lib.hid (And.intro hB3 hB4)
          clear hbc hB3 hB4
          have L4 : Hid (∀ z, Below wc.heap.size wc z → Bk z g3 25 #[.string xn, .int .i64 x0, .int .i64 x1, .int .i64 x2, .slice xwa xwn xwc, .slice xba xbn xbc, .string xg, .string xa, .int .i64 xr] ∧ Bk z g4 25 #[.string xn, .int .i64 x0, .int .i64 x1, .int .i64 x2, .slice xwa xwn xwc, .slice xba xbn xbc, .string xg, .string xa, .int .i64 xr]) := fun z hb => ⟨hBB.out.1.below hb hlt3, hBB.out.2.below hb hlt4⟩
          have HFL : Hid (∀ z v, World.ownsRow z wc.heap.size 29 2 v (0 + bs.length + 1) ([] ++ flatP bs ++ [.string mk, .string mv]) → z.ownsRow wc.heap.size 29 2 v (bs ++ [(⟨mk, mv⟩ : Pr)]).length (flatP (bs ++ [(⟨mk, mv⟩ : Pr)]))) := fun z v h => by
            have e1 : (bs ++ [(⟨mk, mv⟩ : Pr)]).length = 0 + bs.length + 1 := by simp
            have e2 : flatP (bs ++ [(⟨mk, mv⟩ : Pr)]) = [] ++ flatP bs ++ [.string mk, .string mv] := by simp [flatP]
            rw [e1, e2]
            exact h
          have HSZ : Hid (∀ p ∈ bs ++ [(⟨mk, mv⟩ : Pr)], p.k.size ≤ maxLen ∧ p.v.size ≤ maxLen) := fun p hp => by
            obtain ⟨_, _, _, _, hs2, _⟩ := H2.out
            rcases List.mem_append.1 hp with h | h
            · exact hs2 p h
            · obtain rfl := List.mem_singleton.1 h
              exact ⟨HX.out.1, HX.out.2.1⟩
          have HLN : Hid ((bs ++ [(⟨mk, mv⟩ : Pr)]).length ≤ 4611686018427387904) := len_snoc HX.out.2.2.2.2
          rcases xba with _ | ad
          · obtain ⟨rfl, rfl⟩ := pairs_nil H2.out
            have LS : Hid (∀ z, Below wc.heap.size wc z → (z.cell? ⟨w.heap.size, 5, none⟩ = some (.slice none 0 xbc) ∧ z.cell? ⟨w.heap.size + 1 + 1, 0, none⟩ = some (.string mk) ∧ z.cell? ⟨w.heap.size + 1 + 1, 1, none⟩ = some (.string mv))) := by
              intro z hb
              obtain ⟨q1, q2, q3, q4, q5⟩ := HQ.out
              exact ⟨(hb.cell (by show w.heap.size < _; omega)).trans q1, (hb.cell (by show w.heap.size + 1 + 1 < _; omega)).trans q2, (hb.cell (by show w.heap.size + 1 + 1 < _; omega)).trans q3⟩
            have LP : Hid (∀ (z : World) v, (z.cell? ⟨w.heap.size, 5, none⟩ = some (.slice none 0 xbc) ∧ z.cell? ⟨w.heap.size + 1 + 1, 0, none⟩ = some (.string mk) ∧ z.cell? ⟨w.heap.size + 1 + 1, 1, none⟩ = some (.string mv)) → ((z.setCell ⟨g4, 5, none⟩ v).cell? ⟨w.heap.size, 5, none⟩ = some (.slice none 0 xbc) ∧ (z.setCell ⟨g4, 5, none⟩ v).cell? ⟨w.heap.size + 1 + 1, 0, none⟩ = some (.string mk) ∧ (z.setCell ⟨g4, 5, none⟩ v).cell? ⟨w.heap.size + 1 + 1, 1, none⟩ = some (.string mv))) := by
              intro z v hs
              have e1 : ∀ b i, b < w.heap.size + 5 → (⟨g4, 5, none⟩ : Addr) ≠ ⟨b, i, none⟩ := fun b i hb e => by have h7 : g4 = b := congrArg Addr.block e; omega
              exact ⟨(World.cell?_setCell_other _ _ _ _ (e1 _ _ (by omega))).trans hs.1, (World.cell?_setCell_other _ _ _ _ (e1 _ _ (by omega))).trans hs.2.1, (World.cell?_setCell_other _ _ _ _ (e1 _ _ (by omega))).trans hs.2.2⟩
            have BA := Lib.hid (((Below.refl wc.heap.size wc).alloc (Nat.le_refl _) (.cells #[] 29)).drew)
            have BB := Lib.hid (((Below.refl wc.heap.size wc).alloc (Nat.le_refl _) (.cells #[.string mk, .string mv] 29)).drew)
            have BAB := Lib.hid ((((Below.refl wc.heap.size wc).alloc (Nat.le_refl _) (.cells #[] 29)).alloc (by simp) (.cells #[.string mk, .string mv] 29)).drew)
            have BBA := Lib.hid ((((Below.refl wc.heap.size wc).alloc (Nat.le_refl _) (.cells #[.string mk, .string mv] 29)).alloc (by simp) (.cells #[] 29)).drew)
            have KD := Lib.hid (LS.out _ ((Below.refl wc.heap.size wc).drew))
            have K1 := Lib.hid (LS.out _ BA.out)
            have K2 := Lib.hid (LS.out _ BB.out)
            have K3 := Lib.hid (LS.out _ BAB.out)
            have K4 := Lib.hid (LS.out _ BBA.out)
            have OA : Hid ((wc.alloc (.cells #[] 29)).drew.ownsRow wc.heap.size 29 2 (.slice (some ⟨wc.heap.size, 0, none⟩) 0 0) 0 []) := own_empty wc _ _ _ (Nat.le_refl _)
            have OAB : Hid (((wc.alloc (.cells #[] 29)).alloc (.cells #[.string mk, .string mv] 29)).drew.ownsRow wc.heap.size 29 2 (.slice (some ⟨wc.heap.size, 0, none⟩) 0 0) 0 []) := World.ownsRow.alloc (own_empty wc _ _ _ (Nat.le_refl _)) _
            have OBA : Hid (((wc.alloc (.cells #[.string mk, .string mv] 29)).alloc (.cells #[] 29)).drew.ownsRow wc.heap.size 29 2 (.slice (some ⟨wc.heap.size + 1, 0, none⟩) 0 0) 0 []) := by have := own_empty (wc.alloc (.cells #[.string mk, .string mv] 29)) wc.heap.size 29 2 (by simp); rw [World.size_alloc] at this; exact this
            have NAB : Hid (∀ z own, ((wc.alloc (.cells #[] 29)).alloc (.cells #[.string mk, .string mv] 29)).drew.grownBy z own → own ≠ some (wc.heap.size + 1) → ∀ j u, ([.string mk, .string mv] : List Value)[j]? = some u → z.cell? ((⟨wc.heap.size + 1, 0, none⟩ : Addr).add j) = some u) := fun z own hg hn j u hj => by
              have h1 := pair_new (wc.alloc (.cells #[] 29)) mk mv j u hj
              rw [World.size_alloc] at h1
              rw [Addr.add_lit] at h1 ⊢
              exact hg.cell h1 (fun e => hn e.symm)
            have NBA : Hid (∀ z own, ((wc.alloc (.cells #[.string mk, .string mv] 29)).alloc (.cells #[] 29)).drew.grownBy z own → own ≠ some wc.heap.size → ∀ j u, ([.string mk, .string mv] : List Value)[j]? = some u → z.cell? ((⟨wc.heap.size, 0, none⟩ : Addr).add j) = some u) := fun z own hg hn j u hj => by
              have h1 := pair_new wc mk mv j u hj
              rw [Addr.add_lit] at h1 ⊢
              exact hg.cell (cell_older _ h1) (fun e => hn e.symm)
            have NW := Lib.hid (fun z => pair_new z mk mv)
            have PO := Lib.hid (pair_one mk mv)
            clear HQ
            go_region_held3 (fun z => (z.cell? ⟨w.heap.size, 5, none⟩ = some (.slice none 0 xbc) ∧ z.cell? ⟨w.heap.size + 1 + 1, 0, none⟩ = some (.string mk) ∧ z.cell? ⟨w.heap.size + 1 + 1, 1, none⟩ = some (.string mv))) (first | assumption | with_reducible exact KD.out | with_reducible exact K1.out | with_reducible exact K2.out | with_reducible exact K3.out | with_reducible exact K4.out | with_reducible exact KS.out | with_reducible exact KB5.out) (first
              | (refine step_append_own rfl (.tmp 30) (.tmp 32) _ rfl wc.heap.size 29 i0 _ 2 32 Try.underlying23 hi hq0 hq1 hq2 rfl (Nat.succ_pos _) _ 0 [] rfl OAB.out ⟨wc.heap.size + 1, 0, none⟩ 1 1 [.string mk, .string mv] rfl rfl (NAB.out _ none (World.grownBy.refl _ _) (by simp)) PO.out hm4 hm5 BAB.out.size ?_; have OX := OAB; intro v6 w6 hown6 hg6 _; have HB6 := Lib.hid (BAB.out.grown hg6 BAB.out.size (fun g hg => (World.ownsRow.lt OX.out g hg).1)); have HO6 := Lib.hid hown6; have e6 := own_slice hown6; simp only [Nat.zero_add] at e6; obtain ⟨a6, c6, rfl⟩ := e6; have hS6 := LS.out _ HB6.out; have KS := Lib.hid (LP.out w6 (.slice a6 1 c6) hS6); have H46 := Lib.hid (L4.out _ HB6.out); have z5 : w6.cell? ⟨g4, 5, none⟩ = some (.slice none 0 xbc) := H46.out.2.cell 5; have zf := H46.out.2.frozen 5; clear hown6 hg6)
              | (refine step_append_own rfl (.tmp 30) (.tmp 32) _ rfl wc.heap.size 29 i0 _ 2 32 Try.underlying23 hi hq0 hq1 hq2 rfl (Nat.succ_pos _) _ 0 [] rfl OBA.out ⟨wc.heap.size, 0, none⟩ 1 1 [.string mk, .string mv] rfl rfl (NBA.out _ none (World.grownBy.refl _ _) (by simp)) PO.out hm4 hm5 BBA.out.size ?_; have OX := OBA; intro v6 w6 hown6 hg6 _; have HB6 := Lib.hid (BBA.out.grown hg6 BBA.out.size (fun g hg => (World.ownsRow.lt OX.out g hg).1)); have HO6 := Lib.hid hown6; have e6 := own_slice hown6; simp only [Nat.zero_add] at e6; obtain ⟨a6, c6, rfl⟩ := e6; have hS6 := LS.out _ HB6.out; have KS := Lib.hid (LP.out w6 (.slice a6 1 c6) hS6); have H46 := Lib.hid (L4.out _ HB6.out); have z5 : w6.cell? ⟨g4, 5, none⟩ = some (.slice none 0 xbc) := H46.out.2.cell 5; have zf := H46.out.2.frozen 5; clear hown6 hg6))
            all_goals
              go_wp2_with fail
              go_meet
              case rel =>
                have HPR := own_pairs (ownsRow_setCell_below (HFL.out _ _ HO6.out) (a := ⟨g4, 5, none⟩) hlt4 (.slice a6 1 c6)) HSZ.out HLN.out
                exact ⟨a6, c6, H46.out.1.far (p := ⟨g4, 5, none⟩) hn34 (.slice a6 1 c6), H46.out.2.set 5 (.slice a6 1 c6), HPR, fun u => own_pairs (ownsRow_setCell_below (ownsRow_setCell_below (HFL.out _ _ HO6.out) (a := ⟨g4, 5, none⟩) hlt4 _) (a := ⟨g3, 4, none⟩) hlt3 u) HSZ.out HLN.out, (HB6.out.mono hzc).setCell (p := ⟨g4, 5, none⟩) hg4 (.slice a6 1 c6)⟩
          · obtain ⟨rfl, HPC0⟩ := pairs_cells H2.out
            have HPC : Hid (∀ z, Below wc.heap.size wc z → ∀ j u, (flatP bs)[j]? = some u → z.cell? (ad.add j) = some u) := fun z hb => (pairs_cells (H2.out.over ((KB.out _ HSC.out).1.trans (hb.mono (KB.out _ HSC.out).1.size)))).2
            clear HPC0
            have LS : Hid (∀ z, Below wc.heap.size wc z → (z.cell? ⟨w.heap.size, 5, none⟩ = some (.slice (some ad) bs.length xbc) ∧ z.cell? ⟨w.heap.size + 1 + 1, 0, none⟩ = some (.string mk) ∧ z.cell? ⟨w.heap.size + 1 + 1, 1, none⟩ = some (.string mv))) := by
              intro z hb
              obtain ⟨q1, q2, q3, q4, q5⟩ := HQ.out
              exact ⟨(hb.cell (by show w.heap.size < _; omega)).trans q1, (hb.cell (by show w.heap.size + 1 + 1 < _; omega)).trans q2, (hb.cell (by show w.heap.size + 1 + 1 < _; omega)).trans q3⟩
            have LP : Hid (∀ (z : World) v, (z.cell? ⟨w.heap.size, 5, none⟩ = some (.slice (some ad) bs.length xbc) ∧ z.cell? ⟨w.heap.size + 1 + 1, 0, none⟩ = some (.string mk) ∧ z.cell? ⟨w.heap.size + 1 + 1, 1, none⟩ = some (.string mv)) → ((z.setCell ⟨g4, 5, none⟩ v).cell? ⟨w.heap.size, 5, none⟩ = some (.slice (some ad) bs.length xbc) ∧ (z.setCell ⟨g4, 5, none⟩ v).cell? ⟨w.heap.size + 1 + 1, 0, none⟩ = some (.string mk) ∧ (z.setCell ⟨g4, 5, none⟩ v).cell? ⟨w.heap.size + 1 + 1, 1, none⟩ = some (.string mv))) := by
              intro z v hs
              have e1 : ∀ b i, b < w.heap.size + 5 → (⟨g4, 5, none⟩ : Addr) ≠ ⟨b, i, none⟩ := fun b i hb e => by have h7 : g4 = b := congrArg Addr.block e; omega
              exact ⟨(World.cell?_setCell_other _ _ _ _ (e1 _ _ (by omega))).trans hs.1, (World.cell?_setCell_other _ _ _ _ (e1 _ _ (by omega))).trans hs.2.1, (World.cell?_setCell_other _ _ _ _ (e1 _ _ (by omega))).trans hs.2.2⟩
            have BA := Lib.hid (((Below.refl wc.heap.size wc).alloc (Nat.le_refl _) (.cells #[] 29)).drew)
            have BB := Lib.hid (((Below.refl wc.heap.size wc).alloc (Nat.le_refl _) (.cells #[.string mk, .string mv] 29)).drew)
            have BAB := Lib.hid ((((Below.refl wc.heap.size wc).alloc (Nat.le_refl _) (.cells #[] 29)).alloc (by simp) (.cells #[.string mk, .string mv] 29)).drew)
            have BBA := Lib.hid ((((Below.refl wc.heap.size wc).alloc (Nat.le_refl _) (.cells #[.string mk, .string mv] 29)).alloc (by simp) (.cells #[] 29)).drew)
            have KD := Lib.hid (LS.out _ ((Below.refl wc.heap.size wc).drew))
            have K1 := Lib.hid (LS.out _ BA.out)
            have K2 := Lib.hid (LS.out _ BB.out)
            have K3 := Lib.hid (LS.out _ BAB.out)
            have K4 := Lib.hid (LS.out _ BBA.out)
            have OA : Hid ((wc.alloc (.cells #[] 29)).drew.ownsRow wc.heap.size 29 2 (.slice (some ⟨wc.heap.size, 0, none⟩) 0 0) 0 []) := own_empty wc _ _ _ (Nat.le_refl _)
            have OAB : Hid (((wc.alloc (.cells #[] 29)).alloc (.cells #[.string mk, .string mv] 29)).drew.ownsRow wc.heap.size 29 2 (.slice (some ⟨wc.heap.size, 0, none⟩) 0 0) 0 []) := World.ownsRow.alloc (own_empty wc _ _ _ (Nat.le_refl _)) _
            have OBA : Hid (((wc.alloc (.cells #[.string mk, .string mv] 29)).alloc (.cells #[] 29)).drew.ownsRow wc.heap.size 29 2 (.slice (some ⟨wc.heap.size + 1, 0, none⟩) 0 0) 0 []) := by have := own_empty (wc.alloc (.cells #[.string mk, .string mv] 29)) wc.heap.size 29 2 (by simp); rw [World.size_alloc] at this; exact this
            have NAB : Hid (∀ z own, ((wc.alloc (.cells #[] 29)).alloc (.cells #[.string mk, .string mv] 29)).drew.grownBy z own → own ≠ some (wc.heap.size + 1) → ∀ j u, ([.string mk, .string mv] : List Value)[j]? = some u → z.cell? ((⟨wc.heap.size + 1, 0, none⟩ : Addr).add j) = some u) := fun z own hg hn j u hj => by
              have h1 := pair_new (wc.alloc (.cells #[] 29)) mk mv j u hj
              rw [World.size_alloc] at h1
              rw [Addr.add_lit] at h1 ⊢
              exact hg.cell h1 (fun e => hn e.symm)
            have NBA : Hid (∀ z own, ((wc.alloc (.cells #[.string mk, .string mv] 29)).alloc (.cells #[] 29)).drew.grownBy z own → own ≠ some wc.heap.size → ∀ j u, ([.string mk, .string mv] : List Value)[j]? = some u → z.cell? ((⟨wc.heap.size, 0, none⟩ : Addr).add j) = some u) := fun z own hg hn j u hj => by
              have h1 := pair_new wc mk mv j u hj
              rw [Addr.add_lit] at h1 ⊢
              exact hg.cell (cell_older _ h1) (fun e => hn e.symm)
            have NW := Lib.hid (fun z => pair_new z mk mv)
            have PO := Lib.hid (pair_one mk mv)
            clear HQ
            go_region_held3 (fun z => (z.cell? ⟨w.heap.size, 5, none⟩ = some (.slice (some ad) bs.length xbc) ∧ z.cell? ⟨w.heap.size + 1 + 1, 0, none⟩ = some (.string mk) ∧ z.cell? ⟨w.heap.size + 1 + 1, 1, none⟩ = some (.string mv))) (first | assumption | with_reducible exact KD.out | with_reducible exact K1.out | with_reducible exact K2.out | with_reducible exact K3.out | with_reducible exact K4.out | with_reducible exact KS.out | with_reducible exact KB5.out) (first
              | (refine step_append_own rfl (.tmp 27) (.tmp 29) _ rfl wc.heap.size 29 i0 _ 2 32 Try.underlying23 hi hq0 hq1 hq2 rfl (Nat.succ_pos _) _ 0 [] rfl OAB.out ad bs.length xbc (flatP bs) rfl (flatP_len bs) (HPC.out _ BAB.out) (flatP_one bs) hm0 hm3 BAB.out.size ?_; intro v5 w5 hown5 hg5 hob5; have HB5 := Lib.hid (BAB.out.grown hg5 BAB.out.size (fun g hg => (World.ownsRow.lt OAB.out g hg).1)); have OX := Lib.hid hown5; have hS5 := LS.out _ HB5.out; have NX := Lib.hid (NAB.out _ _ hg5 (fun e => by have h7 : wc.heap.size = wc.heap.size + 1 := Option.some.inj e; omega)); clear hown5 hg5 hob5)
              | (refine step_append_own rfl (.tmp 27) (.tmp 29) _ rfl wc.heap.size 29 i0 _ 2 32 Try.underlying23 hi hq0 hq1 hq2 rfl (Nat.succ_pos _) _ 0 [] rfl OBA.out ad bs.length xbc (flatP bs) rfl (flatP_len bs) (HPC.out _ BBA.out) (flatP_one bs) hm0 hm3 BBA.out.size ?_; intro v5 w5 hown5 hg5 hob5; have HB5 := Lib.hid (BBA.out.grown hg5 BBA.out.size (fun g hg => (World.ownsRow.lt OBA.out g hg).1)); have OX := Lib.hid hown5; have hS5 := LS.out _ HB5.out; have NX := Lib.hid (NBA.out _ _ hg5 (fun e => by have h7 : wc.heap.size + 1 = wc.heap.size := Option.some.inj e; omega)); clear hown5 hg5 hob5)
              | (refine step_append_own rfl (.tmp 27) (.tmp 29) _ rfl wc.heap.size 29 i0 _ 2 32 Try.underlying23 hi hq0 hq1 hq2 rfl (Nat.succ_pos _) _ 0 [] rfl OA.out ad bs.length xbc (flatP bs) rfl (flatP_len bs) (HPC.out _ BA.out) (flatP_one bs) hm0 hm3 BA.out.size ?_; intro v5 w5 hown5 hg5 hob5; have HB5 := Lib.hid (BA.out.grown hg5 BA.out.size (fun g hg => (World.ownsRow.lt OA.out g hg).1)); have OX := Lib.hid hown5; have hS5 := LS.out _ HB5.out; have KB5 := Lib.hid (LS.out _ (HB5.out.alloc HB5.out.size (.cells #[.string mk, .string mv] 29))); have OX0 := Lib.hid hown5; clear hown5 hg5 hob5)
              | (refine step_append_own rfl (.tmp 30) (.tmp 32) _ rfl wc.heap.size 29 i0 _ 2 32 Try.underlying23 hi hq0 hq1 hq2 rfl (Nat.succ_pos _) v5 (0 + bs.length) ([] ++ flatP bs) rfl OX.out ⟨wc.heap.size + 1, 0, none⟩ 1 1 [.string mk, .string mv] rfl rfl NX.out PO.out hm6 hm7 HB5.out.size ?_; intro v6 w6 hown6 hg6 _; have HB6 := Lib.hid (HB5.out.grown hg6 HB5.out.size (fun g hg => (World.ownsRow.lt OX.out g hg).1)); have HO6 := Lib.hid hown6; have e6 := own_slice hown6; simp only [Nat.zero_add] at e6; obtain ⟨a6, c6, rfl⟩ := e6; have hS6 := LS.out _ HB6.out; have KS := Lib.hid (LP.out w6 (.slice a6 (bs.length + 1) c6) hS6); have H46 := Lib.hid (L4.out _ HB6.out); have z5 : w6.cell? ⟨g4, 5, none⟩ = some (.slice (some ad) bs.length xbc) := H46.out.2.cell 5; have zf := H46.out.2.frozen 5; clear hown6 hg6)
              | (refine step_append_own rfl (.tmp 30) (.tmp 32) _ rfl wc.heap.size 29 i0 _ 2 32 Try.underlying23 hi hq0 hq1 hq2 rfl (Nat.succ_pos _) v5 (0 + bs.length) ([] ++ flatP bs) rfl OX.out ⟨wc.heap.size, 0, none⟩ 1 1 [.string mk, .string mv] rfl rfl NX.out PO.out hm6 hm7 HB5.out.size ?_; intro v6 w6 hown6 hg6 _; have HB6 := Lib.hid (HB5.out.grown hg6 HB5.out.size (fun g hg => (World.ownsRow.lt OX.out g hg).1)); have HO6 := Lib.hid hown6; have e6 := own_slice hown6; simp only [Nat.zero_add] at e6; obtain ⟨a6, c6, rfl⟩ := e6; have hS6 := LS.out _ HB6.out; have KS := Lib.hid (LP.out w6 (.slice a6 (bs.length + 1) c6) hS6); have H46 := Lib.hid (L4.out _ HB6.out); have z5 : w6.cell? ⟨g4, 5, none⟩ = some (.slice (some ad) bs.length xbc) := H46.out.2.cell 5; have zf := H46.out.2.frozen 5; clear hown6 hg6)
              | (refine step_append_own rfl (.tmp 30) (.tmp 32) _ rfl wc.heap.size 29 i0 _ 2 32 Try.underlying23 hi hq0 hq1 hq2 rfl (Nat.succ_pos _) v5 (0 + bs.length) ([] ++ flatP bs) rfl (World.ownsRow.alloc OX0.out (.cells #[.string mk, .string mv] 29)) ⟨w5.heap.size, 0, none⟩ 1 1 [.string mk, .string mv] rfl rfl (NW.out w5) PO.out hm6 hm7 (HB5.out.alloc HB5.out.size (.cells #[.string mk, .string mv] 29)).size ?_; intro v6 w6 hown6 hg6 _; have HB6 := Lib.hid ((HB5.out.alloc HB5.out.size (.cells #[.string mk, .string mv] 29)).grown hg6 (HB5.out.alloc HB5.out.size (.cells #[.string mk, .string mv] 29)).size (fun g hg => (World.ownsRow.lt OX.out g hg).1)); have HO6 := Lib.hid hown6; have e6 := own_slice hown6; simp only [Nat.zero_add] at e6; obtain ⟨a6, c6, rfl⟩ := e6; have hS6 := LS.out _ HB6.out; have KS := Lib.hid (LP.out w6 (.slice a6 (bs.length + 1) c6) hS6); have H46 := Lib.hid (L4.out _ HB6.out); have z5 : w6.cell? ⟨g4, 5, none⟩ = some (.slice (some ad) bs.length xbc) := H46.out.2.cell 5; have zf := H46.out.2.frozen 5; clear hown6 hg6))
            all_goals
              go_wp2_with fail
              go_meet
              case rel =>
                have HPR := own_pairs (ownsRow_setCell_below (HFL.out _ _ HO6.out) (a := ⟨g4, 5, none⟩) hlt4 (.slice a6 (bs.length + 1) c6)) HSZ.out HLN.out
                exact ⟨a6, c6, H46.out.1.far (p := ⟨g4, 5, none⟩) hn34 (.slice a6 (bs.length + 1) c6), H46.out.2.set 5 (.slice a6 (bs.length + 1) c6), HPR, fun u => own_pairs (ownsRow_setCell_below (ownsRow_setCell_below (HFL.out _ _ HO6.out) (a := ⟨g4, 5, none⟩) hlt4 _) (a := ⟨g3, 4, none⟩) hlt3 u) HSZ.out HLN.out, (HB6.out.mono hzc).setCell (p := ⟨g4, 5, none⟩) hg4 (.slice a6 (bs.length + 1) c6)⟩
        case rest =>
          obtain ⟨a9, c9, HP5⟩ := hcut
          have HSD := Lib.hid (L0.out _ _ HSC.out HP5.out.2.2.2.2)
          have hn34 := HP.out.1
          have hg3 := HP.out.2.1
          have hg4 := HP.out.2.2.1
          clear HSC HP HS3
          obtain ⟨hB3, hB4, hPR, hPS, hBE⟩ := HP5.out
          have hlt3 := hB3.lt
          have hlt4 := hB4.lt
          have HPR := Lib.hid hPR
          have HPS := Lib.hid hPS
          have HB3 := Lib.hid hB3
          have HB4 := Lib.hid hB4
          clear hBE hPR hPS hB3 hB4 HP5
          have hzc := (KB.out _ HSD.out).2
          obtain ⟨a0, a1, a2, a3, a4, a5, a6, a7, a8, b0, b1, b2, b3, b4, b5, c0, c1, d0, d1, d2, e0, e1, e2, -⟩ := HSD.out
          obtain ⟨k0, k1, k2, k3, k4, k5, k6, k7, k8⟩ := bk_task HB3.out
          have kf := HB3.out.frozen 4
          by_cases hw0 : xwn = 0
          · subst hw0
            go_wp2_with fail
            refine (suits_any xn xg xa x0 x1 x2 xr xwa xba 0 xwc xbn xbc yn y0 y1 y2 yla yta yln ylc ytn ytc (ws) bs ls ts _ (H1.out.over (KB.out _ HSD.out).1) (H2.out.over (KB.out _ HSD.out).1) (H3.out.over (KB.out _ HSD.out).1) (H4.out.over (KB.out _ HSD.out).1)).mono ?_
            rintro e w5 ⟨rfl, hb⟩
            rw [HR.out]
            have HS5 := Lib.hid (L0.out _ _ HSD.out (hb.mono hzc))
            have HB45 := Lib.hid (HB4.out.below hb hlt4)
            have HP45 := Lib.hid (HPR.out.over hb)
            clear hb a0 a1 a2 a3 a4 a5 a6 a7 a8 b0 b1 b2 b3 b4 b5 c0 c1 d0 d1 d2 e0 e1 e2 k0 k1 k2 k3 k4 k5 k6 k7 k8
            obtain ⟨a0, a1, a2, a3, a4, a5, a6, a7, a8, b0, b1, b2, b3, b4, b5, c0, c1, d0, d1, d2, e0, e1, e2, -⟩ := HS5.out
            obtain ⟨k0, k1, k2, k3, k4, k5, k6, k7, k8⟩ := bk_task HB45.out
            have hz5 := (KB.out _ HS5.out).2
            go_wp2_with fail
            refine (suits_any xn xg xa x0 x1 x2 xr xwa a9 0 xwc (bs.length + 1) c9 yn y0 y1 y2 yla yta yln ylc ytn ytc ws (bs ++ [⟨mk, mv⟩]) ls ts _ (H1.out.over (KB.out _ HS5.out).1) HP45.out (H3.out.over (KB.out _ HS5.out).1) (H4.out.over (KB.out _ HS5.out).1)).mono ?_
            rintro e w6 ⟨rfl, hb⟩
            rw [suit_more ⟨mk, mv⟩ HR.out]
            have HS6 := Lib.hid (L0.out _ _ HS5.out (hb.mono hz5))
            clear hb
            go_wp2_with fail
            go_meet
            case rel => exact HS6.out
          · have h1w : (1 : Int) ≤ (xwn : Int) := by omega
            have h0w : decide ((0 : Int) < (xwn : Int)) = true := decide_eq_true (by omega)
            have h0n : decide (0 < xwn) = true := decide_eq_true (by omega)
            have hwc : (xwn : Int) ≤ (xwc : Int) := by have := HX.out.2.2.2.1.1; omega
            obtain ⟨b, off, rfl⟩ := pairs_addr H1.out (by omega)
            by_cases hc1 : xwc = 1
            · have hx1 : xwn = 1 := by have := HX.out.2.2.2.1.1; omega
              subst hx1 hc1
              have HSE := Lib.hid (L0.out _ _ HSD.out ((Below.refl (w.heap.size + 5) wc).setCell (p := ⟨g3, 4, none⟩) hg3 (.slice (some ⟨b, off, none⟩) 0 0)))
              have HE3 : Hid (Bk (wc.setCell ⟨g3, 4, none⟩ (.slice (some ⟨b, off, none⟩) 0 0)) g3 25 #[.string xn, .int .i64 x0, .int .i64 x1, .int .i64 x2, .slice (some ⟨b, off, none⟩) 0 0, .slice xba xbn xbc, .string xg, .string xa, .int .i64 xr]) := HB3.out.set 4 (.slice (some ⟨b, off, none⟩) 0 0)
              have HE4 := Lib.hid (HB4.out.far (p := ⟨g3, 4, none⟩) (fun e => hn34 e.symm) (.slice (some ⟨b, off, none⟩) 0 0))
              have HEP := Lib.hid (HPS.out (.slice (some ⟨b, off, none⟩) 0 0))
              have hlt4e : g4 < (wc.setCell ⟨g3, 4, none⟩ (.slice (some ⟨b, off, none⟩) 0 0)).heap.size := by rw [World.size_setCell]; exact hlt4
              go_upto_region 8 with fail
              generalize wc.setCell ⟨g3, 4, none⟩ (.slice (some ⟨b, off, none⟩) 0 0) = wd at *
              clear a0 a1 a2 a3 a4 a5 a6 a7 a8 b0 b1 b2 b3 b4 b5 c0 c1 d0 d1 d2 e0 e1 e2 k0 k1 k2 k3 k4 k5 k6 k7 k8 kf hzc
              have hze := (KB.out _ HSE.out).2
              obtain ⟨a0, a1, a2, a3, a4, a5, a6, a7, a8, b0, b1, b2, b3, b4, b5, c0, c1, d0, d1, d2, e0, e1, e2, -⟩ := HSE.out
              obtain ⟨k0, k1, k2, k3, k4, k5, k6, k7, k8⟩ := bk_task HE3.out
              go_wp2_with fail
              refine (suits_any xn xg xa x0 x1 x2 xr (some ⟨b, off, none⟩) xba 0 0 xbn xbc yn y0 y1 y2 yla yta yln ylc ytn ytc (ws.drop 1) bs ls ts _ (pairs_zero (H1.out.over (KB.out _ HSE.out).1) rfl) (H2.out.over (KB.out _ HSE.out).1) (H3.out.over (KB.out _ HSE.out).1) (H4.out.over (KB.out _ HSE.out).1)).mono ?_
              rintro e w5 ⟨rfl, hb⟩
              rw [suit_less HR.out]
              have HS5 := Lib.hid (L0.out _ _ HSE.out (hb.mono hze))
              have HB45 := Lib.hid (HE4.out.below hb hlt4e)
              have HP45 := Lib.hid (HEP.out.over hb)
              clear hb a0 a1 a2 a3 a4 a5 a6 a7 a8 b0 b1 b2 b3 b4 b5 c0 c1 d0 d1 d2 e0 e1 e2 k0 k1 k2 k3 k4 k5 k6 k7 k8
              obtain ⟨a0, a1, a2, a3, a4, a5, a6, a7, a8, b0, b1, b2, b3, b4, b5, c0, c1, d0, d1, d2, e0, e1, e2, -⟩ := HS5.out
              obtain ⟨k0, k1, k2, k3, k4, k5, k6, k7, k8⟩ := bk_task HB45.out
              have hz5 := (KB.out _ HS5.out).2
              go_wp2_with fail
              refine (suits_any xn xg xa x0 x1 x2 xr (some ⟨b, off, none⟩) a9 1 1 (bs.length + 1) c9 yn y0 y1 y2 yla yta yln ylc ytn ytc ws (bs ++ [⟨mk, mv⟩]) ls ts _ (H1.out.over (KB.out _ HS5.out).1) HP45.out (H3.out.over (KB.out _ HS5.out).1) (H4.out.over (KB.out _ HS5.out).1)).mono ?_
              rintro e w6 ⟨rfl, hb⟩
              rw [suit_more ⟨mk, mv⟩ HR.out]
              have HS6 := Lib.hid (L0.out _ _ HS5.out (hb.mono hz5))
              clear hb
              go_wp2_with fail
              go_meet
              case rel => exact HS6.out
            · have hc2 : ¬ (1 = xwc) := fun h => hc1 h.symm
              have HSE := Lib.hid (L0.out _ _ HSD.out ((Below.refl (w.heap.size + 5) wc).setCell (p := ⟨g3, 4, none⟩) hg3 (.slice (some ⟨b, off + 2, none⟩) (xwn - 1) (xwc - 1))))
              have HE3 : Hid (Bk (wc.setCell ⟨g3, 4, none⟩ (.slice (some ⟨b, off + 2, none⟩) (xwn - 1) (xwc - 1))) g3 25 #[.string xn, .int .i64 x0, .int .i64 x1, .int .i64 x2, .slice (some ⟨b, off + 2, none⟩) (xwn - 1) (xwc - 1), .slice xba xbn xbc, .string xg, .string xa, .int .i64 xr]) := HB3.out.set 4 (.slice (some ⟨b, off + 2, none⟩) (xwn - 1) (xwc - 1))
              have HE4 := Lib.hid (HB4.out.far (p := ⟨g3, 4, none⟩) (fun e => hn34 e.symm) (.slice (some ⟨b, off + 2, none⟩) (xwn - 1) (xwc - 1)))
              have HEP := Lib.hid (HPS.out (.slice (some ⟨b, off + 2, none⟩) (xwn - 1) (xwc - 1)))
              have hlt4e : g4 < (wc.setCell ⟨g3, 4, none⟩ (.slice (some ⟨b, off + 2, none⟩) (xwn - 1) (xwc - 1))).heap.size := by rw [World.size_setCell]; exact hlt4
              go_upto_region 8 with fail
              generalize wc.setCell ⟨g3, 4, none⟩ (.slice (some ⟨b, off + 2, none⟩) (xwn - 1) (xwc - 1)) = wd at *
              clear a0 a1 a2 a3 a4 a5 a6 a7 a8 b0 b1 b2 b3 b4 b5 c0 c1 d0 d1 d2 e0 e1 e2 k0 k1 k2 k3 k4 k5 k6 k7 k8 kf hzc
              have hze := (KB.out _ HSE.out).2
              obtain ⟨a0, a1, a2, a3, a4, a5, a6, a7, a8, b0, b1, b2, b3, b4, b5, c0, c1, d0, d1, d2, e0, e1, e2, -⟩ := HSE.out
              obtain ⟨k0, k1, k2, k3, k4, k5, k6, k7, k8⟩ := bk_task HE3.out
              go_wp2_with fail
              refine (suits_any xn xg xa x0 x1 x2 xr (some ⟨b, off + 2, none⟩) xba (xwn - 1) (xwc - 1) xbn xbc yn y0 y1 y2 yla yta yln ylc ytn ytc (ws.drop 1) bs ls ts _ (pairs_tail (H1.out.over (KB.out _ HSE.out).1) (by omega)) (H2.out.over (KB.out _ HSE.out).1) (H3.out.over (KB.out _ HSE.out).1) (H4.out.over (KB.out _ HSE.out).1)).mono ?_
              rintro e w5 ⟨rfl, hb⟩
              rw [suit_less HR.out]
              have HS5 := Lib.hid (L0.out _ _ HSE.out (hb.mono hze))
              have HB45 := Lib.hid (HE4.out.below hb hlt4e)
              have HP45 := Lib.hid (HEP.out.over hb)
              clear hb a0 a1 a2 a3 a4 a5 a6 a7 a8 b0 b1 b2 b3 b4 b5 c0 c1 d0 d1 d2 e0 e1 e2 k0 k1 k2 k3 k4 k5 k6 k7 k8
              obtain ⟨a0, a1, a2, a3, a4, a5, a6, a7, a8, b0, b1, b2, b3, b4, b5, c0, c1, d0, d1, d2, e0, e1, e2, -⟩ := HS5.out
              obtain ⟨k0, k1, k2, k3, k4, k5, k6, k7, k8⟩ := bk_task HB45.out
              have hz5 := (KB.out _ HS5.out).2
              go_wp2_with fail
              refine (suits_any xn xg xa x0 x1 x2 xr (some ⟨b, off, none⟩) a9 xwn xwc (bs.length + 1) c9 yn y0 y1 y2 yla yta yln ylc ytn ytc ws (bs ++ [⟨mk, mv⟩]) ls ts _ (H1.out.over (KB.out _ HS5.out).1) HP45.out (H3.out.over (KB.out _ HS5.out).1) (H4.out.over (KB.out _ HS5.out).1)).mono ?_
              rintro e w6 ⟨rfl, hb⟩
              rw [suit_more ⟨mk, mv⟩ HR.out]
              have HS6 := Lib.hid (L0.out _ _ HS5.out (hb.mono hz5))
              clear hb
              go_wp2_with fail
              go_meet
              case rel => exact HS6.out
  case rest =>
    have HSF : Hid (wc.cell? ⟨w.heap.size, 0, none⟩ = some (.string xn) ∧ wc.cell? ⟨w.heap.size, 1, none⟩ = some (.int .i64 x0) ∧ wc.cell? ⟨w.heap.size, 2, none⟩ = some (.int .i64 x1) ∧ wc.cell? ⟨w.heap.size, 3, none⟩ = some (.int .i64 x2) ∧ wc.cell? ⟨w.heap.size, 4, none⟩ = some (.slice xwa xwn xwc) ∧ wc.cell? ⟨w.heap.size, 5, none⟩ = some (.slice xba xbn xbc) ∧ wc.cell? ⟨w.heap.size, 6, none⟩ = some (.string xg) ∧ wc.cell? ⟨w.heap.size, 7, none⟩ = some (.string xa) ∧ wc.cell? ⟨w.heap.size, 8, none⟩ = some (.int .i64 xr) ∧ wc.cell? ⟨w.heap.size + 1, 0, none⟩ = some (.string yn) ∧ wc.cell? ⟨w.heap.size + 1, 1, none⟩ = some (.int .i64 y0) ∧ wc.cell? ⟨w.heap.size + 1, 2, none⟩ = some (.int .i64 y1) ∧ wc.cell? ⟨w.heap.size + 1, 3, none⟩ = some (.int .i64 y2) ∧ wc.cell? ⟨w.heap.size + 1, 4, none⟩ = some (.slice yla yln ylc) ∧ wc.cell? ⟨w.heap.size + 1, 5, none⟩ = some (.slice yta ytn ytc) ∧ wc.cell? ⟨w.heap.size + 2, 0, none⟩ = some (.string mk) ∧ wc.cell? ⟨w.heap.size + 2, 1, none⟩ = some (.string mv) ∧ wc.cell? ⟨w.heap.size + 3, 0, none⟩ = some (.int .i64 u0) ∧ wc.cell? ⟨w.heap.size + 3, 1, none⟩ = some (.int .i64 u1) ∧ wc.cell? ⟨w.heap.size + 3, 2, none⟩ = some (.int .i64 u2) ∧ wc.cell? ⟨w.heap.size + 4, 0, none⟩ = some (.int .i64 n0) ∧ wc.cell? ⟨w.heap.size + 4, 1, none⟩ = some (.int .i64 n1) ∧ wc.cell? ⟨w.heap.size + 4, 2, none⟩ = some (.int .i64 n2) ∧ Hid (Below w.heap.size w wc ∧ w.heap.size + 5 ≤ wc.heap.size)) := hcut.out
    clear hcut HS3 HR H1 H2 H3 H4 HX a0 a1 a2 a3 a4 a5 a6 a7 a8 b0 b1 b2 b3 b4 b5 c0 c1 d0 d1 d2 e0 e1 e2 hz3
    obtain ⟨-, -, -, -, -, -, -, -, -, b0, b1, b2, b3, b4, b5, -, -, d0, d1, d2, e0, e1, e2, -⟩ := HSF.out
    have e0 : wc.cell? ⟨w.heap.size + 1 + 1 + 1 + 1, 0, none⟩ = some (.int .i64 n0) := e0
    have e1 : wc.cell? ⟨w.heap.size + 1 + 1 + 1 + 1, 1, none⟩ = some (.int .i64 n1) := e1
    have e2 : wc.cell? ⟨w.heap.size + 1 + 1 + 1 + 1, 2, none⟩ = some (.int .i64 n2) := e2
    have hzf := (KB.out _ HSF.out).2
    obtain ⟨hk0, hk1⟩ := HK.out
    have hk3 : kind.tmod 3 = 0 ∨ kind.tmod 3 = 1 ∨ kind.tmod 3 = 2 := by rw [Int.tmod_eq_emod_of_nonneg hk0]; omega
    clear hk0 hk1 HK
    rcases hk3 with hk | hk | hk
    · go_upto_region 12 with fail
      have HSG := Lib.hid (L0.out _ _ HSF.out ((Below.refl (w.heap.size + 5) wc).alloc hzf (.cells #[.int .i64 0, .int .i64 n1, .int .i64 n2] 22)))
      have HLG := Lib.hid (Bk.new wc 22 #[.int .i64 0, .int .i64 n1, .int .i64 n2])
      clear b0 b1 b2 b3 b4 b5 d0 d1 d2 e0 e1 e2 hzf HSF
      generalize wc.alloc (.cells #[.int .i64 0, .int .i64 n1, .int .i64 n2] 22) = wd at *
      generalize wc.heap.size = gl at *
      have hlt := HLG.out.lt
      have hzg := (KB.out _ HSG.out).2
      obtain ⟨-, -, -, -, -, -, -, -, -, b0, b1, b2, b3, b4, b5, -, -, d0, d1, d2, e0, e1, e2, -⟩ := HSG.out
      have e0 : wd.cell? ⟨w.heap.size + 1 + 1 + 1 + 1, 0, none⟩ = some (.int .i64 n0) := e0
      have e1 : wd.cell? ⟨w.heap.size + 1 + 1 + 1 + 1, 1, none⟩ = some (.int .i64 n1) := e1
      have e2 : wd.cell? ⟨w.heap.size + 1 + 1 + 1 + 1, 2, none⟩ = some (.int .i64 n2) := e2
      have d0 : wd.cell? ⟨w.heap.size + 1 + 1 + 1, 0, none⟩ = some (.int .i64 u0) := d0
      have d1 : wd.cell? ⟨w.heap.size + 1 + 1 + 1, 1, none⟩ = some (.int .i64 u1) := d1
      have d2 : wd.cell? ⟨w.heap.size + 1 + 1 + 1, 2, none⟩ = some (.int .i64 u2) := d2
      generalize hr : roomB y0 y1 y2 u0 u1 u2 n0 n1 n2 = r
      have HR := Lib.hid hr
      clear hr
      cases r
      · go_wp2_with fail
        refine (room_any yn y0 y1 y2 yla yta yln ylc ytn ytc u0 u1 u2 n0 n1 n2 _).mono ?_
        rintro e w5 ⟨rfl, hb⟩
        rw [HR.out]
        have HS5 := Lib.hid (L0.out _ _ HSG.out (hb.mono hzg))
        clear hb
        go_wp2
        go_ret
        exact ⟨rfl, (KB.out _ HS5.out).1⟩
      · go_wp2_with fail
        refine (room_any yn y0 y1 y2 yla yta yln ylc ytn ytc u0 u1 u2 n0 n1 n2 _).mono ?_
        rintro e w5 ⟨rfl, hb⟩
        rw [HR.out]
        have HS5 := Lib.hid (L0.out _ _ HSG.out (hb.mono hzg))
        have HL5 := Lib.hid (HLG.out.below hb hlt)
        clear hb b0 b1 b2 b3 b4 b5 d0 d1 d2 e0 e1 e2
        have hz5 := (KB.out _ HS5.out).2
        obtain ⟨-, -, -, -, -, -, -, -, -, b0, b1, b2, b3, b4, b5, -, -, d0, d1, d2, e0, e1, e2, -⟩ := HS5.out
        have d0 : w5.cell? ⟨w.heap.size + 1 + 1 + 1, 0, none⟩ = some (.int .i64 u0) := d0
        have d1 : w5.cell? ⟨w.heap.size + 1 + 1 + 1, 1, none⟩ = some (.int .i64 u1) := d1
        have d2 : w5.cell? ⟨w.heap.size + 1 + 1 + 1, 2, none⟩ = some (.int .i64 u2) := d2
        have l0 : w5.cell? ⟨gl, 0, none⟩ = some (.int .i64 0) := HL5.out.cell 0
        have l1 : w5.cell? ⟨gl, 1, none⟩ = some (.int .i64 n1) := HL5.out.cell 1
        have l2 : w5.cell? ⟨gl, 2, none⟩ = some (.int .i64 n2) := HL5.out.cell 2
        go_wp2_with fail
        refine (room_any yn y0 y1 y2 yla yta yln ylc ytn ytc u0 u1 u2 0 n1 n2 _).mono ?_
        rintro e w6 ⟨rfl, hb⟩
        rw [(room_less0 HR.out).1]
        have HS6 := Lib.hid (L0.out _ _ HS5.out (hb.mono hz5))
        clear hb b0 b1 b2 b3 b4 b5 d0 d1 d2 e0 e1 e2 l0 l1 l2
        have hz6 := (KB.out _ HS6.out).2
        obtain ⟨-, -, -, -, -, -, -, -, -, b0, b1, b2, b3, b4, b5, -, -, d0, d1, d2, e0, e1, e2, -⟩ := HS6.out
        have e0 : w6.cell? ⟨w.heap.size + 1 + 1 + 1 + 1, 0, none⟩ = some (.int .i64 n0) := e0
        have e1 : w6.cell? ⟨w.heap.size + 1 + 1 + 1 + 1, 1, none⟩ = some (.int .i64 n1) := e1
        have e2 : w6.cell? ⟨w.heap.size + 1 + 1 + 1 + 1, 2, none⟩ = some (.int .i64 n2) := e2
        go_wp2_with fail
        refine (room_any yn y0 y1 y2 yla yta yln ylc ytn ytc 0 0 0 n0 n1 n2 _).mono ?_
        rintro e w7 ⟨rfl, hb⟩
        rw [room_unused HR.out]
        have HS7 := Lib.hid (L0.out _ _ HS6.out (hb.mono hz6))
        clear hb
        go_wp2
        go_ret
        exact ⟨rfl, (KB.out _ HS7.out).1⟩
    · go_upto_region 12 with fail
      have HSG := Lib.hid (L0.out _ _ HSF.out ((Below.refl (w.heap.size + 5) wc).alloc hzf (.cells #[.int .i64 n0, .int .i64 0, .int .i64 n2] 22)))
      have HLG := Lib.hid (Bk.new wc 22 #[.int .i64 n0, .int .i64 0, .int .i64 n2])
      clear b0 b1 b2 b3 b4 b5 d0 d1 d2 e0 e1 e2 hzf HSF
      generalize wc.alloc (.cells #[.int .i64 n0, .int .i64 0, .int .i64 n2] 22) = wd at *
      generalize wc.heap.size = gl at *
      have hlt := HLG.out.lt
      have hzg := (KB.out _ HSG.out).2
      obtain ⟨-, -, -, -, -, -, -, -, -, b0, b1, b2, b3, b4, b5, -, -, d0, d1, d2, e0, e1, e2, -⟩ := HSG.out
      have e0 : wd.cell? ⟨w.heap.size + 1 + 1 + 1 + 1, 0, none⟩ = some (.int .i64 n0) := e0
      have e1 : wd.cell? ⟨w.heap.size + 1 + 1 + 1 + 1, 1, none⟩ = some (.int .i64 n1) := e1
      have e2 : wd.cell? ⟨w.heap.size + 1 + 1 + 1 + 1, 2, none⟩ = some (.int .i64 n2) := e2
      have d0 : wd.cell? ⟨w.heap.size + 1 + 1 + 1, 0, none⟩ = some (.int .i64 u0) := d0
      have d1 : wd.cell? ⟨w.heap.size + 1 + 1 + 1, 1, none⟩ = some (.int .i64 u1) := d1
      have d2 : wd.cell? ⟨w.heap.size + 1 + 1 + 1, 2, none⟩ = some (.int .i64 u2) := d2
      generalize hr : roomB y0 y1 y2 u0 u1 u2 n0 n1 n2 = r
      have HR := Lib.hid hr
      clear hr
      cases r
      · go_wp2_with fail
        refine (room_any yn y0 y1 y2 yla yta yln ylc ytn ytc u0 u1 u2 n0 n1 n2 _).mono ?_
        rintro e w5 ⟨rfl, hb⟩
        rw [HR.out]
        have HS5 := Lib.hid (L0.out _ _ HSG.out (hb.mono hzg))
        clear hb
        go_wp2
        go_ret
        exact ⟨rfl, (KB.out _ HS5.out).1⟩
      · go_wp2_with fail
        refine (room_any yn y0 y1 y2 yla yta yln ylc ytn ytc u0 u1 u2 n0 n1 n2 _).mono ?_
        rintro e w5 ⟨rfl, hb⟩
        rw [HR.out]
        have HS5 := Lib.hid (L0.out _ _ HSG.out (hb.mono hzg))
        have HL5 := Lib.hid (HLG.out.below hb hlt)
        clear hb b0 b1 b2 b3 b4 b5 d0 d1 d2 e0 e1 e2
        have hz5 := (KB.out _ HS5.out).2
        obtain ⟨-, -, -, -, -, -, -, -, -, b0, b1, b2, b3, b4, b5, -, -, d0, d1, d2, e0, e1, e2, -⟩ := HS5.out
        have d0 : w5.cell? ⟨w.heap.size + 1 + 1 + 1, 0, none⟩ = some (.int .i64 u0) := d0
        have d1 : w5.cell? ⟨w.heap.size + 1 + 1 + 1, 1, none⟩ = some (.int .i64 u1) := d1
        have d2 : w5.cell? ⟨w.heap.size + 1 + 1 + 1, 2, none⟩ = some (.int .i64 u2) := d2
        have l0 : w5.cell? ⟨gl, 0, none⟩ = some (.int .i64 n0) := HL5.out.cell 0
        have l1 : w5.cell? ⟨gl, 1, none⟩ = some (.int .i64 0) := HL5.out.cell 1
        have l2 : w5.cell? ⟨gl, 2, none⟩ = some (.int .i64 n2) := HL5.out.cell 2
        go_wp2_with fail
        refine (room_any yn y0 y1 y2 yla yta yln ylc ytn ytc u0 u1 u2 n0 0 n2 _).mono ?_
        rintro e w6 ⟨rfl, hb⟩
        rw [(room_less0 HR.out).2.1]
        have HS6 := Lib.hid (L0.out _ _ HS5.out (hb.mono hz5))
        clear hb b0 b1 b2 b3 b4 b5 d0 d1 d2 e0 e1 e2 l0 l1 l2
        have hz6 := (KB.out _ HS6.out).2
        obtain ⟨-, -, -, -, -, -, -, -, -, b0, b1, b2, b3, b4, b5, -, -, d0, d1, d2, e0, e1, e2, -⟩ := HS6.out
        have e0 : w6.cell? ⟨w.heap.size + 1 + 1 + 1 + 1, 0, none⟩ = some (.int .i64 n0) := e0
        have e1 : w6.cell? ⟨w.heap.size + 1 + 1 + 1 + 1, 1, none⟩ = some (.int .i64 n1) := e1
        have e2 : w6.cell? ⟨w.heap.size + 1 + 1 + 1 + 1, 2, none⟩ = some (.int .i64 n2) := e2
        go_wp2_with fail
        refine (room_any yn y0 y1 y2 yla yta yln ylc ytn ytc 0 0 0 n0 n1 n2 _).mono ?_
        rintro e w7 ⟨rfl, hb⟩
        rw [room_unused HR.out]
        have HS7 := Lib.hid (L0.out _ _ HS6.out (hb.mono hz6))
        clear hb
        go_wp2
        go_ret
        exact ⟨rfl, (KB.out _ HS7.out).1⟩
    · go_upto_region 12 with fail
      have HSG := Lib.hid (L0.out _ _ HSF.out ((Below.refl (w.heap.size + 5) wc).alloc hzf (.cells #[.int .i64 n0, .int .i64 n1, .int .i64 0] 22)))
      have HLG := Lib.hid (Bk.new wc 22 #[.int .i64 n0, .int .i64 n1, .int .i64 0])
      clear b0 b1 b2 b3 b4 b5 d0 d1 d2 e0 e1 e2 hzf HSF
      generalize wc.alloc (.cells #[.int .i64 n0, .int .i64 n1, .int .i64 0] 22) = wd at *
      generalize wc.heap.size = gl at *
      have hlt := HLG.out.lt
      have hzg := (KB.out _ HSG.out).2
      obtain ⟨-, -, -, -, -, -, -, -, -, b0, b1, b2, b3, b4, b5, -, -, d0, d1, d2, e0, e1, e2, -⟩ := HSG.out
      have e0 : wd.cell? ⟨w.heap.size + 1 + 1 + 1 + 1, 0, none⟩ = some (.int .i64 n0) := e0
      have e1 : wd.cell? ⟨w.heap.size + 1 + 1 + 1 + 1, 1, none⟩ = some (.int .i64 n1) := e1
      have e2 : wd.cell? ⟨w.heap.size + 1 + 1 + 1 + 1, 2, none⟩ = some (.int .i64 n2) := e2
      have d0 : wd.cell? ⟨w.heap.size + 1 + 1 + 1, 0, none⟩ = some (.int .i64 u0) := d0
      have d1 : wd.cell? ⟨w.heap.size + 1 + 1 + 1, 1, none⟩ = some (.int .i64 u1) := d1
      have d2 : wd.cell? ⟨w.heap.size + 1 + 1 + 1, 2, none⟩ = some (.int .i64 u2) := d2
      generalize hr : roomB y0 y1 y2 u0 u1 u2 n0 n1 n2 = r
      have HR := Lib.hid hr
      clear hr
      cases r
      · go_wp2_with fail
        refine (room_any yn y0 y1 y2 yla yta yln ylc ytn ytc u0 u1 u2 n0 n1 n2 _).mono ?_
        rintro e w5 ⟨rfl, hb⟩
        rw [HR.out]
        have HS5 := Lib.hid (L0.out _ _ HSG.out (hb.mono hzg))
        clear hb
        go_wp2
        go_ret
        exact ⟨rfl, (KB.out _ HS5.out).1⟩
      · go_wp2_with fail
        refine (room_any yn y0 y1 y2 yla yta yln ylc ytn ytc u0 u1 u2 n0 n1 n2 _).mono ?_
        rintro e w5 ⟨rfl, hb⟩
        rw [HR.out]
        have HS5 := Lib.hid (L0.out _ _ HSG.out (hb.mono hzg))
        have HL5 := Lib.hid (HLG.out.below hb hlt)
        clear hb b0 b1 b2 b3 b4 b5 d0 d1 d2 e0 e1 e2
        have hz5 := (KB.out _ HS5.out).2
        obtain ⟨-, -, -, -, -, -, -, -, -, b0, b1, b2, b3, b4, b5, -, -, d0, d1, d2, e0, e1, e2, -⟩ := HS5.out
        have d0 : w5.cell? ⟨w.heap.size + 1 + 1 + 1, 0, none⟩ = some (.int .i64 u0) := d0
        have d1 : w5.cell? ⟨w.heap.size + 1 + 1 + 1, 1, none⟩ = some (.int .i64 u1) := d1
        have d2 : w5.cell? ⟨w.heap.size + 1 + 1 + 1, 2, none⟩ = some (.int .i64 u2) := d2
        have l0 : w5.cell? ⟨gl, 0, none⟩ = some (.int .i64 n0) := HL5.out.cell 0
        have l1 : w5.cell? ⟨gl, 1, none⟩ = some (.int .i64 n1) := HL5.out.cell 1
        have l2 : w5.cell? ⟨gl, 2, none⟩ = some (.int .i64 0) := HL5.out.cell 2
        go_wp2_with fail
        refine (room_any yn y0 y1 y2 yla yta yln ylc ytn ytc u0 u1 u2 n0 n1 0 _).mono ?_
        rintro e w6 ⟨rfl, hb⟩
        rw [(room_less0 HR.out).2.2]
        have HS6 := Lib.hid (L0.out _ _ HS5.out (hb.mono hz5))
        clear hb b0 b1 b2 b3 b4 b5 d0 d1 d2 e0 e1 e2 l0 l1 l2
        have hz6 := (KB.out _ HS6.out).2
        obtain ⟨-, -, -, -, -, -, -, -, -, b0, b1, b2, b3, b4, b5, -, -, d0, d1, d2, e0, e1, e2, -⟩ := HS6.out
        have e0 : w6.cell? ⟨w.heap.size + 1 + 1 + 1 + 1, 0, none⟩ = some (.int .i64 n0) := e0
        have e1 : w6.cell? ⟨w.heap.size + 1 + 1 + 1 + 1, 1, none⟩ = some (.int .i64 n1) := e1
        have e2 : w6.cell? ⟨w.heap.size + 1 + 1 + 1 + 1, 2, none⟩ = some (.int .i64 n2) := e2
        go_wp2_with fail
        refine (room_any yn y0 y1 y2 yla yta yln ylc ytn ytc 0 0 0 n0 n1 n2 _).mono ?_
        rintro e w7 ⟨rfl, hb⟩
        rw [room_unused HR.out]
        have HS7 := Lib.hid (L0.out _ _ HS6.out (hb.mono hz6))
        clear hb
        go_wp2
        go_ret
        exact ⟨rfl, (KB.out _ HS7.out).1⟩
end Rg
end Go.Proofs.Ytcjpflpmidjadaa
