/-
  Merged: BoKeep, BoLead, BoCanQ, BoUse, BoLivD, BoLives.
-/
import Derived.Test.YtaipbaegbpebkaaGreatBgB
import Derived.Test.YtaipbaegbpebkaaGreatBgY
import Derived.Test.YtaipbaegbpebkaaGreatBgU
import Derived.Deep.LoopGhost
/-
  A RIGHT BOOK STAYS RIGHT, whatever is done to it.
-/
namespace Go.Proofs.YtaipbaegbpebkaaGreat
open Go.RowKit Go.Lib
namespace Bo
open Rw
set_option linter.unusedVariables false
section
variable {α : Type} {f : α → ByteArray}
theorem er_mem {l : List α} (hr : Ris (l.map f)) {k : ByteArray} (hk : hasK (l.map f) k = true) {x : α} : x ∈ l.eraseIdx (lbK (l.map f) k) ↔ x ∈ l ∧ f x ≠ k := by
 obtain ⟨hl, hg⟩ := has_get hr hk
 rw [List.length_map] at hl
 simp only [List.getElem_map] at hg
 rw [List.mem_eraseIdx_iff_getElem]
 constructor
 · rintro ⟨i, hi, hne, rfl⟩
   refine ⟨List.getElem_mem hi, fun he => ?_⟩
   rcases Nat.lt_or_gt_of_ne hne with h | h
   · have := ris_get hr i (lbK (l.map f) k) (by simpa using hl) h
     simp only [List.getElem_map] at this
     rw [he, hg, ls_irr] at this; cases this
   · have := ris_get hr (lbK (l.map f) k) i (by simpa using hi) h
     simp only [List.getElem_map] at this
     rw [he, hg, ls_irr] at this; cases this
 · rintro ⟨hx, hne⟩
   obtain ⟨i, hi, rfl⟩ := List.getElem_of_mem hx
   exact ⟨i, hi, fun e => hne (by subst e; exact hg), rfl⟩
theorem er_ris {l : List α} (hr : Ris (l.map f)) (i : Nat) : Ris ((l.eraseIdx i).map f) := by rw [er_map]; exact ris_del hr i
theorem in_mem {l : List α} {i : Nat} {x y : α} : y ∈ insR l i x ↔ y = x ∨ y ∈ l := by rw [(insR_perm l i x).mem_iff, List.mem_cons]
theorem in_ris {l : List α} (hr : Ris (l.map f)) {x : α} (hx : hasK (l.map f) (f x) = false) : Ris ((insR l (lbK (l.map f) (f x)) x).map f) := by rw [insR_map]; exact ris_ins hr hx
end
theorem tOf_same {ts ts' : List Hd.Td} (hr : Ris (ts.map (·.n))) (hr' : Ris (ts'.map (·.n))) {k : ByteArray} (hk : hasK (ts.map (·.n)) k = true) (hs : ∀ x ∈ ts, x.n = k → x ∈ ts') : tOf ts' k = tOf ts k := by
 obtain ⟨y, hy, rfl⟩ := has_mem hk
 rw [tOf_at hr hy, tOf_at hr' (hs y hy rfl)]
theorem nOf_same {ts ts' : List Hd.Nd} (hr : Ris (ts.map (·.n))) (hr' : Ris (ts'.map (·.n))) {k : ByteArray} (hk : hasK (ts.map (·.n)) k = true) (hs : ∀ x ∈ ts, x.n = k → x ∈ ts') : nOf ts' k = nOf ts k := by
 obtain ⟨y, hy, rfl⟩ := has_mem hk
 rw [nOf_at hr hy, nOf_at hr' (hs y hy rfl)]
/-- Fewer binds. -/
theorem RB.fewer {b : Bk} (h : RB b) {bs : List Rg.Pr} (hs : bs.Sublist b.bs) : RB ⟨b.ns, b.ts, bs, b.fe⟩ := by
 refine ⟨h.ln, h.kn, h.rn, h.lt, h.kt, h.rt, h.rb.sublist (hs.map _), fun o ho => h.on o (hs.subset ho), h.be.sublist hs, fun v hv => ?_⟩
 have h5 := h.ro v hv
 have ht : (thr b.ts bs v).Sublist (thr b.ts b.bs v) := thr_sub _ hs _
 have ha : ∀ t ∈ thr b.ts b.bs v, _ := fun t ht => amtT (h.kt t (h.lists.thr_mem ht))
 have s0 := sumI_sub (·.z0) ht (fun t ht => (ha t ht).1.1)
 have s1 := sumI_sub (·.z1) ht (fun t ht => (ha t ht).2.1.1)
 have s2 := sumI_sub (·.z2) ht (fun t ht => (ha t ht).2.2.1)
 simp only [us0, us1, us2] at h5 ⊢
 omega
/-- Other tasks, among them all that are bound. -/
theorem RB.tasks {b : Bk} (h : RB b) {ts : List Hd.Td} (h1 : ts.length ≤ 32) (h2 : ∀ x ∈ ts, okT x = true) (h3 : Ris (ts.map (·.n))) (h4 : ∀ o ∈ b.bs, ∀ x ∈ b.ts, x.n = o.k → x ∈ ts) : RB ⟨b.ns, ts, b.bs, b.fe⟩ := by
 have he : ∀ o ∈ b.bs, tOf ts o.k = tOf b.ts o.k := fun o ho => tOf_same h.rt h3 (h.on o ho).1 (h4 o ho)
 refine ⟨h.ln, h.kn, h.rn, h1, h2, h3, h.rb, fun o ho => ?_, ?_, fun v hv => ?_⟩
 · obtain ⟨o1, o2, o3⟩ := h.on o ho
   refine ⟨?_, o2, ?_⟩
   · obtain ⟨y, hy, hk⟩ := has_mem o1
     exact has_iff.2 (List.mem_map.2 ⟨y, h4 o ho y hy hk, hk⟩)
   · show suB (tOf ts o.k) _ = true
     rw [he o ho]; exact o3
 · refine h.be.imp_of_mem ?_
   intro o p ho hp hb hv
   show beB (tOf ts o.k) (tOf ts p.k) = true
   rw [he o ho, he p hp]; exact hb hv
 · have h5 := h.ro v hv
   simp only [us0, us1, us2] at h5 ⊢
   rw [thr_congr he]; exact h5
/-- Other nodes, among them all that tasks are on. -/
theorem RB.nodes {b : Bk} (h : RB b) {ns : List Hd.Nd} (h1 : ns.length ≤ 16) (h2 : ∀ x ∈ ns, okN x = true) (h3 : Ris (ns.map (·.n))) (h4 : ∀ o ∈ b.bs, ∀ x ∈ b.ns, x.n = o.v → x ∈ ns) : RB ⟨ns, b.ts, b.bs, b.fe⟩ := by
 have hh : ∀ o ∈ b.bs, hasK (ns.map (·.n)) o.v = true := fun o ho => by
  obtain ⟨y, hy, hk⟩ := has_mem (h.on o ho).2.1
  exact has_iff.2 (List.mem_map.2 ⟨y, h4 o ho y hy hk, hk⟩)
 refine ⟨h1, h2, h3, h.lt, h.kt, h.rt, h.rb, fun o ho => ?_, h.be, fun v hv => ?_⟩
 · obtain ⟨o1, o2, o3⟩ := h.on o ho
   refine ⟨o1, hh o ho, ?_⟩
   show suB _ (nOf ns o.v) = true
   rw [nOf_same h.rn h3 o2 (h4 o ho)]; exact o3
 · by_cases hb : ∃ o ∈ b.bs, o.v = v
   · obtain ⟨o, ho, rfl⟩ := hb
     have h5 := h.ro o.v (h.on o ho).2.1
     show us0 b o.v ≤ (nOf ns o.v).z0 ∧ us1 b o.v ≤ (nOf ns o.v).z1 ∧ us2 b o.v ≤ (nOf ns o.v).z2
     rw [nOf_same h.rn h3 (h.on o ho).2.1 (h4 o ho)]; exact h5
   · have hn : thr b.ts b.bs v = [] := by
      unfold thr
      rw [List.filter_eq_nil_iff.2 (fun o ho => by simpa using fun e => hb ⟨o, ho, e⟩)]
      rfl
     obtain ⟨y, hy, hk⟩ := has_mem hv
     have hz := amtN (h2 y hy)
     have hno : nOf ns v = y := by rw [← hk]; exact nOf_at h3 hy
     show us0 b v ≤ (nOf ns v).z0 ∧ us1 b v ≤ (nOf ns v).z1 ∧ us2 b v ≤ (nOf ns v).z2
     simp only [us0, us1, us2]
     rw [hn, hno]
     exact ⟨hz.1.1, hz.2.1.1, hz.2.2.1⟩
/-- One bind more. -/
theorem RB.bind {b : Bk} (h : RB b) {k v : ByteArray} (hc : canE b k v = 0) : RB ⟨b.ns, b.ts, insR b.bs (lbB b.bs k) ⟨k, v⟩, b.fe⟩ := by
 obtain ⟨⟨c1, c2⟩, c3, c4, c5, c6⟩ := can0.1 hc
 have hp := insR_perm b.bs (lbB b.bs k) ⟨k, v⟩
 refine ⟨h.ln, h.kn, h.rn, h.lt, h.kt, h.rt, in_ris (f := fun o : Rg.Pr => o.k) (x := ⟨k, v⟩) h.rb c3, fun o ho => ?_, ?_, fun u hu => ?_⟩
 · rcases in_mem.1 ho with rfl | ho
   · exact ⟨c1, c2, c4⟩
   · exact h.on o ho
 · refine (hp.pairwise_iff (fun {o p} hb hv => by rw [be_sym]; exact hb hv.symm)).2 (List.pairwise_cons.2 ⟨fun p hp hv => ?_, h.be⟩)
   unfold waB at c6
   rw [List.any_eq_false] at c6
   have hm : tOf b.ts p.k ∈ thr b.ts b.bs v := List.mem_map.2 ⟨p, List.mem_filter.2 ⟨hp, by simpa using hv.symm⟩, rfl⟩
   have h5 := c6 _ hm
   simpa using h5
 · have h5 := h.ro u hu
   have ht := thr_perm b.ts hp u
   simp only [us0, us1, us2] at h5 ⊢
   rw [sumI_perm _ ht, sumI_perm _ ht, sumI_perm _ ht, thr_cons]
   by_cases he : v = u
   · rw [if_pos he]
     have h6 := room_parts c5
     simp only [us0, us1, us2, he] at h6
     simp only [sumI]
     omega
   · rw [if_neg he]; exact h5
theorem drB_sub (l : List Rg.Pr) (k : ByteArray) : (drB l k).Sublist l := by
 unfold drB
 split
 · exact List.eraseIdx_sublist _ _
 · exact List.Sublist.refl _
theorem drB_ne {l : List Rg.Pr} (hr : Ris (l.map (·.k))) {k : ByteArray} {o : Rg.Pr} (ho : o ∈ drB l k) : o.k ≠ k := by
 unfold drB at ho
 split at ho
 · rename_i hh
   exact ((er_mem hr hh).1 ho).2
 · rename_i hh
   intro e
   exact hh (has_iff.2 (List.mem_map.2 ⟨o, ho, e⟩))
theorem RB.adN {b : Bk} (h : RB b) (n : Hd.Nd) : RB (adN b n).1 := by
 unfold Bo.adN
 split
 · rename_i he
   split
   · exact h
   · rename_i hh
     split
     · exact h
     · rename_i hl
       have hh2 : hasK (b.ns.map (·.n)) n.n = false := by simpa [hsN] using hh
       refine h.nodes ?_ ?_ (in_ris h.rn hh2) (fun o _ x hx _ => in_mem.2 (.inr hx))
       · rw [insR_len _ _ _ (by have := lb_le (b.ns.map (·.n)) n.n; rw [List.length_map] at this; exact this)]; omega
       · intro x hx
         rcases in_mem.1 hx with rfl | hx
         · exact decide_eq_true he
         · exact h.kn x hx
 · exact h
theorem RB.adT {b : Bk} (h : RB b) (n : Hd.Td) : RB (adT b n).1 := by
 unfold Bo.adT
 split
 · rename_i he
   split
   · exact h
   · rename_i hh
     split
     · exact h
     · rename_i hl
       have hh2 : hasK (b.ts.map (·.n)) n.n = false := by simpa [hsT] using hh
       refine h.tasks ?_ ?_ (in_ris h.rt hh2) (fun o _ x hx _ => in_mem.2 (.inr hx))
       · rw [insR_len _ _ _ (by have := lb_le (b.ts.map (·.n)) n.n; rw [List.length_map] at this; exact this)]; omega
       · intro x hx
         rcases in_mem.1 hx with rfl | hx
         · exact decide_eq_true he
         · exact h.kt x hx
 · exact h
theorem RB.doN {b : Bk} (h : RB b) (k : ByteArray) : RB (doN b k).1 := by
 unfold Bo.doN
 split
 · rename_i hh
   split
   · exact h
   · rename_i hn
     have hn2 : ∀ o ∈ b.bs, o.v ≠ k := fun o ho e => hn (List.any_eq_true.2 ⟨o, ho, decide_eq_true e⟩)
     refine h.nodes ?_ (fun x hx => h.kn x (List.mem_of_mem_eraseIdx hx)) (er_ris h.rn _) (fun o ho x hx he => (er_mem h.rn hh).2 ⟨hx, by rw [he]; exact hn2 o ho⟩)
     have := (List.eraseIdx_sublist b.ns (lbN b.ns k)).length_le
     have := h.ln
     omega
 · exact h
theorem RB.doT {b : Bk} (h : RB b) (k : ByteArray) : RB (doT b k).1 := by
 unfold Bo.doT
 split
 · rename_i hh
   have h1 := h.fewer (drB_sub b.bs k)
   refine h1.tasks ?_ (fun x hx => h.kt x (List.mem_of_mem_eraseIdx hx)) (er_ris h.rt _) (fun o ho x hx he => (er_mem h.rt hh).2 ⟨hx, by rw [he]; exact drB_ne h.rb ho⟩)
   have := (List.eraseIdx_sublist b.ts (lbT b.ts k)).length_le
   have := h.lt
   omega
 · exact h
theorem RB.biB {b : Bk} (h : RB b) (k v : ByteArray) (fe : Nat) : RB (biB b k v fe).1 := by
 unfold Bo.biB
 split
 · exact h
 · split
   · rename_i hc
     exact h.bind hc
   · exact h
theorem RB.frB {b : Bk} (h : RB b) (k : ByteArray) : RB (frB b k).1 := by
 unfold Bo.frB
 split
 · split
   · exact h.fewer (List.eraseIdx_sublist _ _)
   · exact h
 · exact h
theorem RB.chV {b : Bk} (h : RB b) (C : Hd.Cd) : RB (chV b C).1 := by
 unfold Bo.chV
 repeat' split
 · exact h.adN _
 · exact h.doN _
 · exact h.adT _
 · exact h.doT _
 · exact h.biB _ _ _
 · exact h.frB _
theorem RB.doV {b : Bk} (h : RB b) (C : Hd.Cd) : RB (doV b C).1 := by
 unfold Bo.doV
 split
 · split
   · exact h
   · exact h.chV C
 · exact h
/-! ### What a book must bear to be in memory -/
theorem Fine.of {b b' : Bk} (h : Fine b) (hr : RB b') (h1 : ∀ x ∈ b'.ns, FitN x) (h2 : ∀ x ∈ b'.ts, FitT x) (h3 : ∀ x ∈ b'.bs, FitB x) (h4 : b'.fe = b.fe) : Fine b' :=
 ⟨h1, h2, h3, by rw [h4]; exact h.ff, by have := hr.ln; omega, by have := hr.lt; omega, by have := hr.lists.lb; omega⟩
theorem chV_fe (b : Bk) (C : Hd.Cd) : (chV b C).1.fe = b.fe := by
 unfold chV adN doN adT doT biB frB
 repeat' split
 all_goals rfl
theorem doV_fe (b : Bk) (C : Hd.Cd) : (doV b C).1.fe = b.fe := by
 unfold doV
 repeat' split
 · rfl
 · exact chV_fe b C
 · rfl
theorem chV_ns {b : Bk} {C : Hd.Cd} {x : Hd.Nd} (h : x ∈ (chV b C).1.ns) : x ∈ b.ns ∨ x = C.nd := by
 unfold chV adN doN adT doT biB frB at h
 repeat' split at h
 all_goals first
  | exact .inl h
  | (rcases in_mem.1 h with h | h; exact .inr h; exact .inl h)
  | exact .inl (List.mem_of_mem_eraseIdx h)
theorem chV_ts {b : Bk} {C : Hd.Cd} {x : Hd.Td} (h : x ∈ (chV b C).1.ts) : x ∈ b.ts ∨ x = C.td := by
 unfold chV adN doN adT doT biB frB at h
 repeat' split at h
 all_goals first
  | exact .inl h
  | (rcases in_mem.1 h with h | h; exact .inr h; exact .inl h)
  | exact .inl (List.mem_of_mem_eraseIdx h)
theorem chV_bs {b : Bk} {C : Hd.Cd} {x : Rg.Pr} (h : x ∈ (chV b C).1.bs) : x ∈ b.bs ∨ x = ⟨C.na, C.on⟩ := by
 unfold chV adN doN adT doT biB frB at h
 repeat' split at h
 all_goals first
  | exact .inl h
  | (rcases in_mem.1 h with h | h; exact .inr h; exact .inl h)
  | exact .inl (List.mem_of_mem_eraseIdx h)
  | exact .inl ((drB_sub _ _).subset h)
theorem Fine.doV {b : Bk} (h : Fine b) (hr : RB b) {C : Hd.Cd} (hn : FitN C.nd) (ht : FitT C.td) (hb : FitB ⟨C.na, C.on⟩) : Fine (doV b C).1 := by
 refine h.of (hr.doV C) ?_ ?_ ?_ (doV_fe b C)
 all_goals
  intro x hx
  unfold Bo.doV at hx
  repeat' split at hx
 · exact h.fn x hx
 · rcases chV_ns hx with h2 | rfl
   · exact h.fn x h2
   · exact hn
 · exact h.fn x hx
 · exact h.ft x hx
 · rcases chV_ts hx with h2 | rfl
   · exact h.ft x h2
   · exact ht
 · exact h.ft x hx
 · exact h.fb x hx
 · rcases chV_bs hx with h2 | rfl
   · exact h.fb x h2
   · exact hb
 · exact h.fb x hx
end Bo
end Go.Proofs.YtaipbaegbpebkaaGreat
/-
  book.Lead: WHATEVER THE BOOK.
-/
namespace Go.Proofs.YtaipbaegbpebkaaGreat
open Go.RowKit Go.Lib
namespace Bo
open Rw
set_option linter.unusedVariables false
/-- The two boxes of a function that is given a book and gives one. -/
structure Fr2 (w z : World) (cs : List Value) (rs : List Value) : Prop where
 p : Hd.Bxn z w.heap.size cs
 r : Hd.Bxn z (w.heap.size + 1) rs
 b : Below w.heap.size w z
 s : w.heap.size + 1 + 1 ≤ z.heap.size
theorem Fr2.made (w : World) (cs rs : List Value) (T V : TypeId) : Fr2 w ((w.alloc (.cells cs.toArray T)).alloc (.cells rs.toArray V)) cs rs := by
 have h1 := Hd.Bxn.made w cs T
 have h2 := Hd.Bxn.made (w.alloc (.cells cs.toArray T)) rs V
 simp only [World.size_alloc] at h2
 exact ⟨h1.below (al _ _), h2, ((Below.refl _ w).alloc (Nat.le_refl _) _).alloc (by simp) _, by simp⟩
theorem Fr2.below {w z z' : World} {cs rs : List Value} (h : Fr2 w z cs rs) (hb : Below z.heap.size z z') : Fr2 w z' cs rs :=
 ⟨h.p.below hb, h.r.below hb, h.b.trans (hb.mono h.b.size), Nat.le_trans h.s hb.size⟩
theorem Fr2.setP {w z : World} {cs rs : List Value} (h : Fr2 w z cs rs) (vs : List Value) (hl : vs.length = cs.length) : Fr2 w (z.setCells w.heap.size 0 vs) vs rs :=
 ⟨h.p.all vs hl, bxn_far h.r (by omega), below_setCells h.b (by omega) _ _, Nat.le_trans h.s (grown_setCells z w.heap.size 0 vs).size⟩
theorem Fr2.setR {w z : World} {cs rs : List Value} (h : Fr2 w z cs rs) (vs : List Value) (hl : vs.length = rs.length) : Fr2 w (z.setCells (w.heap.size + 1) 0 vs) cs vs :=
 ⟨bxn_far h.p (by omega), h.r.all vs hl, below_setCells h.b (by omega) _ _, Nat.le_trans h.s (grown_setCells z (w.heap.size + 1) 0 vs).size⟩
theorem Fr2.one {w z : World} {cs rs : List Value} (h : Fr2 w z cs rs) (i : Nat) (v : Value) : Fr2 w (z.setCell ⟨w.heap.size, i, none⟩ v) (cs.set i v) rs :=
 ⟨h.p.set i v, h.r.apart (by omega) _ _, h.b.setCell (Nat.le_refl _) _, Nat.le_trans h.s (grown_setCell z w.heap.size i v).size⟩
/-- What a leader's beginning makes of a book. -/
def ldF (b : Bk) (t : Nat) : Bk × Nat := if chkB b = true then (⟨b.ns, b.ts, b.bs, max b.fe t⟩, 0) else (bk0, 10)
def GaveL (b : Bk) (r : Nat) (w : World) (e : Ending) (w' : World) : Prop := ∃ vn vt vb mn mt, e = .returned (.tuple #[.agg #[vn, vt, vb, .int .u64 (b.fe : Nat)], .int .i64 (r : Nat)]) ∧ b.ns = mn.map (·.nd) ∧ b.ts = mt.map (·.td) ∧ OwnL w' w.heap.size vn vt vb mn mt b.bs ∧ Below w.heap.size w w'
theorem GaveL.mk {b : Bk} {r : Nat} {w w' : World} {vn vt vb : Value} (mn : List NdM) (mt : List TdM) (h1 : b.ns = mn.map (·.nd)) (h2 : b.ts = mt.map (·.td)) (h3 : OwnL w' w.heap.size vn vt vb mn mt b.bs) (h4 : Below w.heap.size w w') : GaveL b r w (.returned (.tuple #[.agg #[vn, vt, vb, .int .u64 (b.fe : Nat)], .int .i64 (r : Nat)])) w' := ⟨vn, vt, vb, mn, mt, rfl, h1, h2, h3, h4⟩
set_option maxRecDepth 100000 in
set_option maxHeartbeats 4000000 in
theorem lead_no (b : Bk) (vn vt vb : Value) (t : Nat) (w : World) (hB : Books w w.heap.size vn vt vb b) (hc : chkB b = false) : Calls Tryz.prog 19 #[.agg #[vn, vt, vb, .int .u64 (b.fe : Nat)], .int .u64 (t : Nat)] w (GaveL bk0 10 w) := by
 obtain ⟨W0, hW0⟩ : ∃ W0, W0 = (w.alloc (.cells #[vn, vt, vb, .int .u64 (b.fe : Nat)] 27)).alloc (.cells #[.slice none 0 0, .slice none 0 0, .slice none 0 0, .int .u64 0] 27) := ⟨_, rfl⟩
 have hf0 : Fr2 w W0 [vn, vt, vb, .int .u64 (b.fe : Nat)] [.slice none 0 0, .slice none 0 0, .slice none 0 0, .int .u64 0] := by rw [hW0]; exact Fr2.made w _ _ _ _
 have HCK : Hid (Calls Tryz.prog 23 #[.agg #[vn, vt, vb, .int .u64 (b.fe : Nat)]] W0 fun e w' => e = .returned (.int .i64 10) ∧ Below W0.heap.size W0 w') := (check_any b vn vt vb W0 (hB.on hf0.b)).mono fun e w' ⟨he, hb⟩ => ⟨by rw [hc] at he; exact he, hb⟩
 obtain ⟨an, cn, hvn⟩ := hB.hn.slice
 obtain ⟨at', ct, hvt⟩ := hB.ht.slice
 obtain ⟨ab, cb, hvb⟩ := hB.hb.slice
 subst hvn hvt hvb
 have HW := Lib.hid hW0
 have HF0 : Hid (Fr2 w W0 [.slice an b.ns.length cn, .slice at' b.ts.length ct, .slice ab b.bs.length cb, .int .u64 (b.fe : Nat)] [.slice none 0 0, .slice none 0 0, .slice none 0 0, .int .u64 0]) := hf0
 clear hW0 hf0 hB hc
 go_enter Tryz.func19, Tryz.ntmps19
 go_upto_region 1 with fail
 rw [← HW.out]
 have b0 : W0.cell? ⟨w.heap.size, 0, none⟩ = some (.slice an b.ns.length cn) := HF0.out.p.cell 0
 have b1 : W0.cell? ⟨w.heap.size, 1, none⟩ = some (.slice at' b.ts.length ct) := HF0.out.p.cell 1
 have b2 : W0.cell? ⟨w.heap.size, 2, none⟩ = some (.slice ab b.bs.length cb) := HF0.out.p.cell 2
 have b3 : W0.cell? ⟨w.heap.size, 3, none⟩ = some (.int .u64 (b.fe : Nat)) := HF0.out.p.cell 3
 go_wp2_with fail
 refine HCK.out.mono ?_
 rintro e w1 ⟨rfl, hb⟩
 have HF1 : Hid (Fr2 w w1 [.slice an b.ns.length cn, .slice at' b.ts.length ct, .slice ab b.bs.length cb, .int .u64 (b.fe : Nat)] [.slice none 0 0, .slice none 0 0, .slice none 0 0, .int .u64 0]) := HF0.out.below hb
 clear hb b0 b1 b2 b3
 go_upto_region 3 with fail
 refine wp_region_list ?_
 refine wpList_plain rfl fun K hK => ?_
 go_simp
 refine hK _ _ ?_
 clear hK K
 refine wpList_plain rfl fun K hK => ?_
 go_simp
 refine hK _ _ ?_
 clear hK K
 have hthR := HF1.out.r.there 4 rfl
 refine wpList_store_mid rfl 27 (.tmp 4) (.tmp 11) rfl (w.heap.size + 1) 0 #[.slice none 0 0, .slice none 0 0, .slice none 0 0, .int .u64 0] rfl rfl hthR rfl (all_oneCell_toArray (b4_one _)) ?_
 rw [show (#[.slice none 0 0, .slice none 0 0, .slice none 0 0, .int .u64 0] : Array Value).toList = [.slice none 0 0, .slice none 0 0, .slice none 0 0, .int .u64 0] from rfl]
 have HR1 : Hid (Fr2 w (w1.setCells (w.heap.size + 1) 0 [.slice none 0 0, .slice none 0 0, .slice none 0 0, .int .u64 0]) [.slice an b.ns.length cn, .slice at' b.ts.length ct, .slice ab b.bs.length cb, .int .u64 (b.fe : Nat)] [.slice none 0 0, .slice none 0 0, .slice none 0 0, .int .u64 0]) := HF1.out.setR [.slice none 0 0, .slice none 0 0, .slice none 0 0, .int .u64 0] rfl
 clear hthR
 generalize w1.setCells (w.heap.size + 1) 0 [.slice none 0 0, .slice none 0 0, .slice none 0 0, .int .u64 0] = z1 at *
 refine wpList_plain rfl fun K hK => ?_
 go_simp
 refine hK _ _ ?_
 clear hK K
 refine wpList_nil ?_
 go_wp2
 exact Hd.bodyPost_bx2 rfl (w.heap.size + 1) [.slice none 0 0, .slice none 0 0, .slice none 0 0, .int .u64 0] _ rfl rfl HR1.out.r Tryz.underlying27 rfl rfl (GaveL.mk (b := bk0) (r := 10) [] [] rfl rfl ⟨Own.nil _ _ _, Own.nil _ _ _, Own.nil _ _ _, by simp, by simp⟩ HR1.out.b)
set_option maxRecDepth 100000 in
set_option maxHeartbeats 4000000 in
theorem lead_ok (b : Bk) (vn vt vb : Value) (t : Nat) (w : World) (hB : Books w w.heap.size vn vt vb b) (ht : t < 18446744073709551616) (hc : chkB b = true) : Calls Tryz.prog 19 #[.agg #[vn, vt, vb, .int .u64 (b.fe : Nat)], .int .u64 (t : Nat)] w (GaveL ⟨b.ns, b.ts, b.bs, max b.fe t⟩ 0 w) := by
 obtain ⟨W0, hW0⟩ : ∃ W0, W0 = (w.alloc (.cells #[vn, vt, vb, .int .u64 (b.fe : Nat)] 27)).alloc (.cells #[.slice none 0 0, .slice none 0 0, .slice none 0 0, .int .u64 0] 27) := ⟨_, rfl⟩
 have hf0 : Fr2 w W0 [vn, vt, vb, .int .u64 (b.fe : Nat)] [.slice none 0 0, .slice none 0 0, .slice none 0 0, .int .u64 0] := by rw [hW0]; exact Fr2.made w _ _ _ _
 have HCK : Hid (Calls Tryz.prog 23 #[.agg #[vn, vt, vb, .int .u64 (b.fe : Nat)]] W0 fun e w' => e = .returned (.int .i64 0) ∧ Below W0.heap.size W0 w') := (check_any b vn vt vb W0 (hB.on hf0.b)).mono fun e w' ⟨he, hb⟩ => ⟨by rw [hc] at he; exact he, hb⟩
 have HCL : Hid (∀ z, Hid (Below w.heap.size w z) → Calls Tryz.prog 27 #[.agg #[vn, vt, vb, .int .u64 (b.fe : Nat)]] z (ClnB b z)) := fun z hz => clone_bk b vn vt vb z (hB.on hz.out) (hB.fine hc)
 obtain ⟨an, cn, hvn⟩ := hB.hn.slice
 obtain ⟨at', ct, hvt⟩ := hB.ht.slice
 obtain ⟨ab, cb, hvb⟩ := hB.hb.slice
 subst hvn hvt hvb
 have HW := Lib.hid hW0
 have HF0 : Hid (Fr2 w W0 [.slice an b.ns.length cn, .slice at' b.ts.length ct, .slice ab b.bs.length cb, .int .u64 (b.fe : Nat)] [.slice none 0 0, .slice none 0 0, .slice none 0 0, .int .u64 0]) := hf0
 clear hW0 hf0 hB hc
 go_enter Tryz.func19, Tryz.ntmps19
 go_upto_region 1 with fail
 rw [← HW.out]
 have b0 : W0.cell? ⟨w.heap.size, 0, none⟩ = some (.slice an b.ns.length cn) := HF0.out.p.cell 0
 have b1 : W0.cell? ⟨w.heap.size, 1, none⟩ = some (.slice at' b.ts.length ct) := HF0.out.p.cell 1
 have b2 : W0.cell? ⟨w.heap.size, 2, none⟩ = some (.slice ab b.bs.length cb) := HF0.out.p.cell 2
 have b3 : W0.cell? ⟨w.heap.size, 3, none⟩ = some (.int .u64 (b.fe : Nat)) := HF0.out.p.cell 3
 go_wp2_with fail
 refine HCK.out.mono ?_
 rintro e w1 ⟨rfl, hb⟩
 have HF1 : Hid (Fr2 w w1 [.slice an b.ns.length cn, .slice at' b.ts.length ct, .slice ab b.bs.length cb, .int .u64 (b.fe : Nat)] [.slice none 0 0, .slice none 0 0, .slice none 0 0, .int .u64 0]) := HF0.out.below hb
 clear hb b0 b1 b2 b3
 go_upto_region 4 with fail
 refine wp_region_list ?_
 refine wpList_load_mid rfl 27 (.tmp 2) rfl w.heap.size 0 rfl [.slice an b.ns.length cn, .slice at' b.ts.length ct, .slice ab b.bs.length cb, .int .u64 (b.fe : Nat)] _ (HF1.out.p.range 0) Tryz.underlying27 rfl rfl ?_
 refine wpList_plain rfl fun K hK => ?_
 go_wp2_with fail
 refine (HCL.out w1 HF1.out.b).mono ?_
 rintro e w2 ⟨v1, v3, v5, m1, m3, rfl, he1, he3, hol, hb⟩
 obtain ⟨a1, d1, rfl⟩ := hol.hn.slice
 obtain ⟨a3', d3, rfl⟩ := hol.ht.slice
 obtain ⟨a5', d5, rfl⟩ := hol.hb.slice
 have HF2 : Hid (Fr2 w w2 [.slice an b.ns.length cn, .slice at' b.ts.length ct, .slice ab b.bs.length cb, .int .u64 (b.fe : Nat)] [.slice none 0 0, .slice none 0 0, .slice none 0 0, .int .u64 0]) := HF1.out.below hb
 have HO2 : Hid (OwnL w2 (w.heap.size + 1 + 1) (.slice a1 m1.length d1) (.slice a3' m3.length d3) (.slice a5' b.bs.length d5) m1 m3 b.bs) := hol.le HF1.out.s
 have HE1 := Lib.hid he1
 have HE3 := Lib.hid he3
 clear hb hol he1 he3
 refine hK _ _ ?_
 clear hK K
 have hthP := HF2.out.p.there 4 rfl
 refine wpList_store_mid rfl 27 (.tmp 2) (.tmp 14) rfl w.heap.size 0 #[.slice a1 m1.length d1, .slice a3' m3.length d3, .slice a5' b.bs.length d5, .int .u64 (b.fe : Nat)] rfl rfl hthP rfl (all_oneCell_toArray (b4_one _)) ?_
 rw [show (#[.slice a1 m1.length d1, .slice a3' m3.length d3, .slice a5' b.bs.length d5, .int .u64 (b.fe : Nat)] : Array Value).toList = [.slice a1 m1.length d1, .slice a3' m3.length d3, .slice a5' b.bs.length d5, .int .u64 (b.fe : Nat)] from rfl]
 have HF3 : Hid (Fr2 w (w2.setCells w.heap.size 0 [.slice a1 m1.length d1, .slice a3' m3.length d3, .slice a5' b.bs.length d5, .int .u64 (b.fe : Nat)]) [.slice a1 m1.length d1, .slice a3' m3.length d3, .slice a5' b.bs.length d5, .int .u64 (b.fe : Nat)] [.slice none 0 0, .slice none 0 0, .slice none 0 0, .int .u64 0]) := HF2.out.setP [.slice a1 m1.length d1, .slice a3' m3.length d3, .slice a5' b.bs.length d5, .int .u64 (b.fe : Nat)] rfl
 have HO3 : Hid (OwnL (w2.setCells w.heap.size 0 [.slice a1 m1.length d1, .slice a3' m3.length d3, .slice a5' b.bs.length d5, .int .u64 (b.fe : Nat)]) (w.heap.size + 1 + 1) (.slice a1 m1.length d1) (.slice a3' m3.length d3) (.slice a5' b.bs.length d5) m1 m3 b.bs) := ownl_set HO2.out (by omega)
 clear hthP HF2 HO2 HF1
 generalize w2.setCells w.heap.size 0 [.slice a1 m1.length d1, .slice a3' m3.length d3, .slice a5' b.bs.length d5, .int .u64 (b.fe : Nat)] = w3 at *
 refine wpList_nil ?_
 go_upto_region 5 with fail
 have p3 : w3.cell? ⟨w.heap.size, 3, none⟩ = some (.int .u64 (b.fe : Nat)) := HF3.out.p.cell 3
 have f3 := HF3.out.p.fz 3
 have hmx : max (b.fe : Int) (t : Int) = ((max b.fe t : Nat) : Int) := by omega
 have HF4 : Hid (Fr2 w (w3.setCell ⟨w.heap.size, 3, none⟩ (.int .u64 (max (b.fe : Int) (t : Int)))) [.slice a1 m1.length d1, .slice a3' m3.length d3, .slice a5' b.bs.length d5, .int .u64 (max b.fe t : Nat)] [.slice none 0 0, .slice none 0 0, .slice none 0 0, .int .u64 0]) := by rw [hmx]; exact HF3.out.one 3 _
 clear hmx
 have HL : Hid (OwnL (w3.setCell ⟨w.heap.size, 3, none⟩ (.int .u64 (max (b.fe : Int) (t : Int)))) (w.heap.size + 1 + 1) (.slice a1 m1.length d1) (.slice a3' m3.length d3) (.slice a5' b.bs.length d5) m1 m3 b.bs) := HO3.out.far (grown_setCell w3 w.heap.size 3 _) (by omega)
 go_upto_region 6 with fail
 generalize w3.setCell ⟨w.heap.size, 3, none⟩ (.int .u64 (max (b.fe : Int) (t : Int))) = w4 at *
 clear p3 f3
 refine wp_region_list ?_
 refine wpList_load_mid rfl 27 (.tmp 2) rfl w.heap.size 0 rfl [.slice a1 m1.length d1, .slice a3' m3.length d3, .slice a5' b.bs.length d5, .int .u64 (max b.fe t : Nat)] _ (HF4.out.p.range 0) Tryz.underlying27 rfl rfl ?_
 have hthR := HF4.out.r.there 4 rfl
 refine wpList_store_mid rfl 27 (.tmp 4) (.tmp 20) rfl (w.heap.size + 1) 0 #[.slice a1 m1.length d1, .slice a3' m3.length d3, .slice a5' b.bs.length d5, .int .u64 (max b.fe t : Nat)] rfl rfl hthR rfl (all_oneCell_toArray (b4_one _)) ?_
 rw [show (#[.slice a1 m1.length d1, .slice a3' m3.length d3, .slice a5' b.bs.length d5, .int .u64 (max b.fe t : Nat)] : Array Value).toList = [.slice a1 m1.length d1, .slice a3' m3.length d3, .slice a5' b.bs.length d5, .int .u64 (max b.fe t : Nat)] from rfl]
 have HR1 : Hid (Fr2 w (w4.setCells (w.heap.size + 1) 0 [.slice a1 m1.length d1, .slice a3' m3.length d3, .slice a5' b.bs.length d5, .int .u64 (max b.fe t : Nat)]) [.slice a1 m1.length d1, .slice a3' m3.length d3, .slice a5' b.bs.length d5, .int .u64 (max b.fe t : Nat)] [.slice a1 m1.length d1, .slice a3' m3.length d3, .slice a5' b.bs.length d5, .int .u64 (max b.fe t : Nat)]) := HF4.out.setR [.slice a1 m1.length d1, .slice a3' m3.length d3, .slice a5' b.bs.length d5, .int .u64 (max b.fe t : Nat)] rfl
 have HL1 : Hid (OwnL (w4.setCells (w.heap.size + 1) 0 [.slice a1 m1.length d1, .slice a3' m3.length d3, .slice a5' b.bs.length d5, .int .u64 (max b.fe t : Nat)]) (w.heap.size + 1 + 1) (.slice a1 m1.length d1) (.slice a3' m3.length d3) (.slice a5' b.bs.length d5) m1 m3 b.bs) := ownl_set HL.out (by omega)
 clear hthR
 generalize w4.setCells (w.heap.size + 1) 0 [.slice a1 m1.length d1, .slice a3' m3.length d3, .slice a5' b.bs.length d5, .int .u64 (max b.fe t : Nat)] = z1 at *
 refine wpList_plain rfl fun K hK => ?_
 go_simp
 refine hK _ _ ?_
 clear hK K
 refine wpList_nil ?_
 go_wp2
 exact Hd.bodyPost_bx2 rfl (w.heap.size + 1) [.slice a1 m1.length d1, .slice a3' m3.length d3, .slice a5' b.bs.length d5, .int .u64 (max b.fe t : Nat)] _ rfl rfl HR1.out.r Tryz.underlying27 rfl rfl (GaveL.mk (b := ⟨b.ns, b.ts, b.bs, max b.fe t⟩) (r := 0) m1 m3 HE1.out HE3.out (HL1.out.le (by omega)) HR1.out.b)
theorem lead_any (b : Bk) (vn vt vb : Value) (t : Nat) (w : World) (hB : Books w w.heap.size vn vt vb b) (ht : t < 18446744073709551616) : Calls Tryz.prog 19 #[.agg #[vn, vt, vb, .int .u64 (b.fe : Nat)], .int .u64 (t : Nat)] w (GaveL (ldF b t).1 (ldF b t).2 w) := by
 unfold ldF
 cases hc : chkB b
 · rw [if_neg (by decide)]
   exact lead_no b vn vt vb t w hB hc
 · rw [if_pos rfl]
   exact lead_ok b vn vt vb t w hB ht hc
end Bo
end Go.Proofs.YtaipbaegbpebkaaGreat
/-
  book.Can: WHATEVER THE BOOK.
-/
namespace Go.Proofs.YtaipbaegbpebkaaGreat
open Go.RowKit Go.Lib
namespace Bo
open Rw
set_option linter.unusedVariables false
/-- Whether a task can be on a node, asked of whatever book. -/
def canF (b : Bk) (k v : ByteArray) : Nat := if chkB b = true then canE b k v else 10
set_option maxRecDepth 100000 in
set_option maxHeartbeats 4000000 in
theorem canq_any (b : Bk) (vn vt vb : Value) (k v : ByteArray) (w : World) (hB : Books w w.heap.size vn vt vb b) :
 Calls Tryz.prog 21 #[.agg #[vn, vt, vb, .int .u64 (b.fe : Nat)], .string k, .string v] w fun e w' => e = .returned (.int .i64 (canF b k v : Nat)) ∧ Below w.heap.size w w' := by
 obtain ⟨W0, hW0⟩ : ∃ W0, W0 = w.alloc (.cells #[vn, vt, vb, .int .u64 (b.fe : Nat)] 27) := ⟨_, rfl⟩
 have hb0 : Below w.heap.size w W0 := by rw [hW0]; exact al w _
 have hx0 : Hd.Bxn W0 w.heap.size [vn, vt, vb, .int .u64 (b.fe : Nat)] := by rw [hW0]; exact Hd.Bxn.made w _ _
 have HCK : Hid (Calls Tryz.prog 23 #[.agg #[vn, vt, vb, .int .u64 (b.fe : Nat)]] W0 fun e w' => e = .returned (.int .i64 (chE (chkB b) : Nat)) ∧ Below W0.heap.size W0 w') := check_any b vn vt vb W0 (hB.on hb0)
 have HW := Lib.hid hW0
 have HB0 := Lib.hid hb0
 have HX0 : Hid (Hd.Bxn W0 w.heap.size [vn, vt, vb, .int .u64 (b.fe : Nat)]) := hx0
 unfold canF
 cases hc : chkB b
 · rw [if_neg (by decide)]
   have HC2 : Hid (Calls Tryz.prog 23 #[.agg #[vn, vt, vb, .int .u64 (b.fe : Nat)]] W0 fun e w' => e = .returned (.int .i64 10) ∧ Below W0.heap.size W0 w') := by rw [hc] at HCK; exact HCK.out
   obtain ⟨an, cn, hvn⟩ := hB.hn.slice
   obtain ⟨at', ct, hvt⟩ := hB.ht.slice
   obtain ⟨ab, cb, hvb⟩ := hB.hb.slice
   subst hvn hvt hvb
   clear hW0 hb0 hx0 HCK hc hB
   go_enter Tryz.func21, Tryz.ntmps21
   go_upto_region 1 with fail
   rw [← HW.out]
   have b0 : W0.cell? ⟨w.heap.size, 0, none⟩ = some (.slice an b.ns.length cn) := HX0.out.cell 0
   have b1 : W0.cell? ⟨w.heap.size, 1, none⟩ = some (.slice at' b.ts.length ct) := HX0.out.cell 1
   have b2 : W0.cell? ⟨w.heap.size, 2, none⟩ = some (.slice ab b.bs.length cb) := HX0.out.cell 2
   have b3 : W0.cell? ⟨w.heap.size, 3, none⟩ = some (.int .u64 (b.fe : Nat)) := HX0.out.cell 3
   go_wp2_with fail
   refine HC2.out.mono ?_
   rintro e w1 ⟨rfl, hb⟩
   have H1 : Hid (Below w.heap.size w w1) := HB0.out.trans (hb.mono HB0.out.size)
   clear hb b0 b1 b2 b3
   go_wp2
   go_ret
   exact ⟨rfl, H1.out⟩
 · rw [if_pos rfl]
   have HC2 : Hid (Calls Tryz.prog 23 #[.agg #[vn, vt, vb, .int .u64 (b.fe : Nat)]] W0 fun e w' => e = .returned (.int .i64 0) ∧ Below W0.heap.size W0 w') := by rw [hc] at HCK; exact HCK.out
   have HCA : Hid (∀ z, Below w.heap.size w z → Calls Tryz.prog 47 #[.agg #[vn, vt, vb, .int .u64 (b.fe : Nat)], .string k, .string v] z fun e w' => e = .returned (.int .i64 (canE b k v : Nat)) ∧ Below z.heap.size z w') := fun z hz => can_any b vn vt vb k v z (hB.on hz) (chk_lists hc)
   obtain ⟨an, cn, hvn⟩ := hB.hn.slice
   obtain ⟨at', ct, hvt⟩ := hB.ht.slice
   obtain ⟨ab, cb, hvb⟩ := hB.hb.slice
   subst hvn hvt hvb
   clear hW0 hb0 hx0 HCK hc hB
   generalize canE b k v = q at *
   go_enter Tryz.func21, Tryz.ntmps21
   go_upto_region 1 with fail
   rw [← HW.out]
   have b0 : W0.cell? ⟨w.heap.size, 0, none⟩ = some (.slice an b.ns.length cn) := HX0.out.cell 0
   have b1 : W0.cell? ⟨w.heap.size, 1, none⟩ = some (.slice at' b.ts.length ct) := HX0.out.cell 1
   have b2 : W0.cell? ⟨w.heap.size, 2, none⟩ = some (.slice ab b.bs.length cb) := HX0.out.cell 2
   have b3 : W0.cell? ⟨w.heap.size, 3, none⟩ = some (.int .u64 (b.fe : Nat)) := HX0.out.cell 3
   go_wp2_with fail
   refine HC2.out.mono ?_
   rintro e w1 ⟨rfl, hb⟩
   have H1 : Hid (Below w.heap.size w w1) := HB0.out.trans (hb.mono HB0.out.size)
   have HX1 := Lib.hid (HX0.out.below hb)
   clear hb b0 b1 b2 b3
   have d0 : w1.cell? ⟨w.heap.size, 0, none⟩ = some (.slice an b.ns.length cn) := HX1.out.cell 0
   have d1 : w1.cell? ⟨w.heap.size, 1, none⟩ = some (.slice at' b.ts.length ct) := HX1.out.cell 1
   have d2 : w1.cell? ⟨w.heap.size, 2, none⟩ = some (.slice ab b.bs.length cb) := HX1.out.cell 2
   have d3 : w1.cell? ⟨w.heap.size, 3, none⟩ = some (.int .u64 (b.fe : Nat)) := HX1.out.cell 3
   go_wp2_with fail
   refine (HCA.out _ H1.out).mono ?_
   rintro e w2 ⟨rfl, hb⟩
   have H2 : Hid (Below w.heap.size w w2) := H1.out.trans (hb.mono H1.out.size)
   clear hb d0 d1 d2 d3
   go_wp2
   go_ret
   exact ⟨rfl, H2.out⟩
end Bo
end Go.Proofs.YtaipbaegbpebkaaGreat
/-
  book.Do AND book.Lead AS A LAW USES THEM: what they give is in rows made for it, and can be given on.
-/
namespace Go.Proofs.YtaipbaegbpebkaaGreat
open Go.RowKit Go.Lib
namespace Bo
open Rw
set_option linter.unusedVariables false
/-- A book that was given, in w', by what was asked at w. -/
def Kept (w w' : World) (b : Bk) (vn vt vb : Value) : Prop := ∃ mn mt, b.ns = mn.map (·.nd) ∧ b.ts = mt.map (·.td) ∧ OwnL w' w.heap.size vn vt vb mn mt b.bs ∧ Fine b
theorem Kept.books {w w' : World} {b : Bk} {vn vt vb : Value} (h : Kept w w' b vn vt vb) : Books w' w'.heap.size vn vt vb b := by
 obtain ⟨mn, mt, h1, h2, h3, h4⟩ := h
 exact h3.books h1 h2 h4
theorem Kept.keep {w w' w'' : World} {b : Bk} {vn vt vb : Value} (h : Kept w w' b vn vt vb) (hb : Below w'.heap.size w' w'') : Kept w w'' b vn vt vb := by
 obtain ⟨mn, mt, h1, h2, h3, h4⟩ := h
 exact ⟨mn, mt, h1, h2, h3.keep hb, h4⟩
theorem Kept.far {w w' : World} {b : Bk} {vn vt vb : Value} (h : Kept w w' b vn vt vb) {P : Nat} (hp : P < w.heap.size) (o : Nat) (vs : List Value) : Kept w (w'.setCells P o vs) b vn vt vb := by
 obtain ⟨mn, mt, h1, h2, h3, h4⟩ := h
 exact ⟨mn, mt, h1, h2, ownl_set h3 hp, h4⟩
theorem Kept.slices {w w' : World} {b : Bk} {vn vt vb : Value} (h : Kept w w' b vn vt vb) : (∃ a c, vn = .slice a b.ns.length c) ∧ (∃ a c, vt = .slice a b.ts.length c) ∧ (∃ a c, vb = .slice a b.bs.length c) := by
 obtain ⟨mn, mt, h1, h2, h3, h4⟩ := h
 rw [h1, h2, List.length_map, List.length_map]
 exact ⟨h3.hn.slice, h3.ht.slice, h3.hb.slice⟩
theorem fine0 : Fine bk0 := ⟨by simp [bk0], by simp [bk0], by simp [bk0], by simp [bk0], by simp [bk0], by simp [bk0], by simp [bk0]⟩
theorem Fine.doF {b : Bk} (h : chkB b = true → Fine b) {C : Hd.Cd} (hn : FitN C.nd) (ht : FitT C.td) (hb : FitB ⟨C.na, C.on⟩) : Fine (doF b C).1 := by
 unfold Bo.doF
 split
 · rename_i hc
   exact (h hc).doV (rb_of_chk hc) hn ht hb
 · exact fine0
theorem do_use (b b' : Bk) (r : Nat) (s : ByteArray) (vn vt vb : Value) (C : Hd.Cd) (a2 a3 a4 a5 : Option Addr) (c2 c3 c4 c5 : Nat) (w : World) (hB : Books w w.heap.size vn vt vb b) (hdn : DeepN w w.heap.size ⟨C.nd, a2, c2, a3, c3⟩) (hfn : FitN C.nd) (hdt : DeepT w w.heap.size ⟨C.td, a4, c4, a5, c5⟩) (hft : FitT C.td) (hfb : FitB ⟨C.na, C.on⟩) (hv : doF b C = (b', r, s)) :
 Calls Tryz.prog 11 #[.agg #[vn, vt, vb, .int .u64 (b.fe : Nat)], .agg #[.int .u8 (C.k : Nat), .string C.nd.n, .int .i64 C.nd.z0, .int .i64 C.nd.z1, .int .i64 C.nd.z2, .slice a2 C.nd.ls.length c2, .slice a3 C.nd.ts.length c3, .string C.td.n, .int .i64 C.td.z0, .int .i64 C.td.z1, .int .i64 C.td.z2, .slice a4 C.td.ws.length c4, .slice a5 C.td.bs.length c5, .string C.td.g, .string C.td.a, .int .i64 C.td.r, .string C.na, .string C.on, .int .u64 (C.fe : Nat)]] w fun e w' => ∃ vn' vt' vb', e = .returned (.tuple #[.agg #[vn', vt', vb', .int .u64 (b'.fe : Nat)], .agg #[.int .i64 (r : Nat), .string s]]) ∧ Kept w w' b' vn' vt' vb' ∧ Below w.heap.size w w' := by
 refine (do_any b vn vt vb C a2 a3 a4 a5 c2 c3 c4 c5 w hB hdn hfn hdt hft).mono ?_
 rintro e w' ⟨vn', vt', vb', mn, mt, he, h1, h2, h3, h4⟩
 have hf := Fine.doF (fun hc => hB.fine hc) hfn hft hfb
 rw [hv] at he h1 h2 h3 hf
 exact ⟨vn', vt', vb', he, ⟨mn, mt, h1, h2, h3, hf⟩, h4⟩
theorem lead_use (b b' : Bk) (r : Nat) (t : Nat) (vn vt vb : Value) (w : World) (hB : Books w w.heap.size vn vt vb b) (ht : t < 18446744073709551616) (hv : ldF b t = (b', r)) :
 Calls Tryz.prog 19 #[.agg #[vn, vt, vb, .int .u64 (b.fe : Nat)], .int .u64 (t : Nat)] w fun e w' => ∃ vn' vt' vb', e = .returned (.tuple #[.agg #[vn', vt', vb', .int .u64 (b'.fe : Nat)], .int .i64 (r : Nat)]) ∧ Kept w w' b' vn' vt' vb' ∧ Below w.heap.size w w' := by
 refine (lead_any b vn vt vb t w hB ht).mono ?_
 rintro e w' ⟨vn', vt', vb', mn, mt, he, h1, h2, h3, h4⟩
 have hf : Fine (ldF b t).1 := by
  unfold ldF
  split
  · rename_i hc
    have h := hB.fine hc
    exact ⟨h.fn, h.ft, h.fb, by have := h.ff; show max b.fe t < _; omega, h.ln, h.lt, h.lb⟩
  · exact fine0
 rw [hv] at he h1 h2 h3 hf
 exact ⟨vn', vt', vb', he, ⟨mn, mt, h1, h2, h3, hf⟩, h4⟩
/-- Two boxes made for what a call gave. -/
theorem two_made (z : World) (c0 d0 cs ds : List Value) (T U : TypeId) (hc : cs.length = c0.length) (hd : ds.length = d0.length) :
 ((z.alloc (.cells c0.toArray T)).alloc (.cells d0.toArray U)).there z.heap.size 0 c0.length ∧
 (((z.alloc (.cells c0.toArray T)).alloc (.cells d0.toArray U)).setCells z.heap.size 0 cs).there (z.heap.size + 1) 0 d0.length ∧
 Below z.heap.size z ((((z.alloc (.cells c0.toArray T)).alloc (.cells d0.toArray U)).setCells z.heap.size 0 cs).setCells (z.heap.size + 1) 0 ds) ∧
 Hd.Bxn ((((z.alloc (.cells c0.toArray T)).alloc (.cells d0.toArray U)).setCells z.heap.size 0 cs).setCells (z.heap.size + 1) 0 ds) z.heap.size cs ∧
 Hd.Bxn ((((z.alloc (.cells c0.toArray T)).alloc (.cells d0.toArray U)).setCells z.heap.size 0 cs).setCells (z.heap.size + 1) 0 ds) (z.heap.size + 1) ds := by
 have h := Fr2.made z c0 d0 T U
 have h2 := h.setP cs hc
 have h3 := h2.setR ds hd
 exact ⟨h.p.there _ rfl, h2.r.there _ rfl, h3.b, h3.p, h3.r⟩
/-- One box made for what a call gave. -/
theorem one_made (z : World) (c0 cs : List Value) (T : TypeId) (hc : cs.length = c0.length) :
 (z.alloc (.cells c0.toArray T)).there z.heap.size 0 c0.length ∧ Below z.heap.size z ((z.alloc (.cells c0.toArray T)).setCells z.heap.size 0 cs) ∧ Hd.Bxn ((z.alloc (.cells c0.toArray T)).setCells z.heap.size 0 cs) z.heap.size cs := by
 have h := Hd.Bxn.made z c0 T
 exact ⟨h.there _ rfl, below_setCells (al z _) (Nat.le_refl _) _ _, h.all cs hc⟩
end Bo
end Go.Proofs.YtaipbaegbpebkaaGreat
/-
  WHAT lives COMES TO, as plain data.
-/
namespace Go.Proofs.YtaipbaegbpebkaaGreat
open Go.RowKit Go.Lib
namespace Bo
open Rw
set_option linter.unusedVariables false
def lvN : Hd.Nd := ⟨⟨#[110]⟩, 5, 0, 0, [], []⟩
def lvA : Hd.Td := ⟨⟨#[97]⟩, 3, 0, 0, [], [], ⟨#[]⟩, ⟨#[]⟩, 0⟩
def lvB : Hd.Td := ⟨⟨#[98]⟩, 3, 0, 0, [], [], ⟨#[]⟩, ⟨#[]⟩, 0⟩
def lvO (nd : Hd.Nd) (td : Hd.Td) (k : Nat) (na on : ByteArray) (fe : Nat) : Hd.Cd := ⟨0, 0, k, nd, td, na, on, fe⟩
def oNode : Hd.Cd := lvO lvN Hd.td0 1 ⟨#[]⟩ ⟨#[]⟩ 0
def oA : Hd.Cd := lvO Hd.nd0 lvA 3 ⟨#[]⟩ ⟨#[]⟩ 0
def oB : Hd.Cd := lvO Hd.nd0 lvB 3 ⟨#[]⟩ ⟨#[]⟩ 0
def oBind : Hd.Cd := lvO Hd.nd0 Hd.td0 5 ⟨#[97]⟩ ⟨#[110]⟩ 0
def bk1 : Bk := ⟨[lvN], [], [], 0⟩
def bk2 : Bk := ⟨[lvN], [lvA], [], 0⟩
def bk3 : Bk := ⟨[lvN], [lvA, lvB], [], 0⟩
def bk4 : Bk := ⟨[lvN], [lvA, lvB], [⟨⟨#[97]⟩, ⟨#[110]⟩⟩], 0⟩
def bk5 : Bk := ⟨[lvN], [lvA, lvB], [⟨⟨#[97]⟩, ⟨#[110]⟩⟩], 3⟩
def Bq : Nat → Bk
 | 0 => bk0
 | 1 => bk1
 | 2 => bk2
 | 3 => bk3
 | _ => bk4
theorem lv0 : doF bk0 oNode = (bk1, 0, ByteArray.empty) := by kernel_rfl
theorem lv1 : doF bk1 oA = (bk2, 0, ByteArray.empty) := by kernel_rfl
theorem lv2 : doF bk2 oB = (bk3, 0, ByteArray.empty) := by kernel_rfl
theorem lv3 : doF bk3 oBind = (bk4, 0, ByteArray.empty) := by kernel_rfl
theorem lv4 : doF bk4 (lvO Hd.nd0 Hd.td0 5 ⟨#[98]⟩ ⟨#[110]⟩ 0) = (bk4, 13, ByteArray.empty) := by kernel_rfl
theorem lv5 : doF bk4 (lvO Hd.nd0 Hd.td0 7 ⟨#[97]⟩ ⟨#[]⟩ 0) = (bk4, 0, ⟨#[110]⟩) := by kernel_rfl
theorem lv6 : ldF bk4 3 = (bk5, 0) := by kernel_rfl
theorem lv7 : doF bk5 (lvO Hd.nd0 Hd.td0 5 ⟨#[98]⟩ ⟨#[110]⟩ 2) = (bk5, 14, ByteArray.empty) := by kernel_rfl
theorem deepN0 (w : World) (n : Hd.Nd) (h1 : n.ls = []) (h2 : n.ts = []) : DeepN w w.heap.size ⟨n, none, 0, none, 0⟩ := by
 obtain ⟨a, b, c, d, e, f⟩ := n
 obtain rfl : e = [] := h1
 obtain rfl : f = [] := h2
 exact ⟨Sl.nil _ _ _, Sl.nil _ _ _⟩
theorem deepT0 (w : World) (n : Hd.Td) (h1 : n.ws = []) (h2 : n.bs = []) : DeepT w w.heap.size ⟨n, none, 0, none, 0⟩ := by
 obtain ⟨a, b, c, d, e, f, g, h, i⟩ := n
 obtain rfl : e = [] := h1
 obtain rfl : f = [] := h2
 exact ⟨Sl.nil _ _ _, Sl.nil _ _ _⟩
theorem fitL0 : FitL [] := ⟨by simp, by simp⟩
theorem fitN0 : FitN Hd.nd0 := ⟨by unfold FitS; decide +kernel, by unfold Rg.In64; decide, fitL0, fitL0⟩
theorem fitT0 : FitT Hd.td0 := ⟨by unfold FitS; decide +kernel, by unfold Rg.In64; decide, fitL0, fitL0⟩
theorem fitN1 : FitN lvN := ⟨by unfold FitS; decide +kernel, by unfold Rg.In64; decide, fitL0, fitL0⟩
theorem fitTA : FitT lvA := ⟨by unfold FitS; decide +kernel, by unfold Rg.In64; decide, fitL0, fitL0⟩
theorem fitTB : FitT lvB := ⟨by unfold FitS; decide +kernel, by unfold Rg.In64; decide, fitL0, fitL0⟩
theorem rng_mid {w : World} {B : Nat} {cs : List Value} (h : Hd.Bxn w B cs) (o : Nat) (vs : List Value) (hv : (cs.drop o).take vs.length = vs) : w.rangeAt B o vs := fun j v hj => by
 rw [← hv, List.getElem?_take] at hj
 split at hj
 · exact h.range o j v hj
 · cases hj
end Bo
end Go.Proofs.YtaipbaegbpebkaaGreat
/-
  THE DOCUMENT's OWN EXAMPLE: gafferlaw08.lives.
-/
namespace Go.Proofs.YtaipbaegbpebkaaGreat
open Go.RowKit Go.Lib
namespace Bo
open Rw
set_option linter.unusedVariables false
def LvS (w wx : World) (k : Nat) : Prop := ∃ vn vt vb, Hd.Bxn wx w.heap.size [vn, vt, vb, .int .u64 ((Bq k).fe : Nat)] ∧ Books wx wx.heap.size vn vt vb (Bq k) ∧ Hd.Bxn wx (w.heap.size + 1) [.int .u8 1, .string ⟨#[110]⟩, .int .i64 5, .int .i64 0, .int .i64 0, .slice none 0 0, .slice none 0 0, .string ⟨#[]⟩, .int .i64 0, .int .i64 0, .int .i64 0, .slice none 0 0, .slice none 0 0, .string ⟨#[]⟩, .string ⟨#[]⟩, .int .i64 0, .string ⟨#[]⟩, .string ⟨#[]⟩, .int .u64 0, .int .u8 3, .string ⟨#[]⟩, .int .i64 0, .int .i64 0, .int .i64 0, .slice none 0 0, .slice none 0 0, .string ⟨#[97]⟩, .int .i64 3, .int .i64 0, .int .i64 0, .slice none 0 0, .slice none 0 0, .string ⟨#[]⟩, .string ⟨#[]⟩, .int .i64 0, .string ⟨#[]⟩, .string ⟨#[]⟩, .int .u64 0, .int .u8 3, .string ⟨#[]⟩, .int .i64 0, .int .i64 0, .int .i64 0, .slice none 0 0, .slice none 0 0, .string ⟨#[98]⟩, .int .i64 3, .int .i64 0, .int .i64 0, .slice none 0 0, .slice none 0 0, .string ⟨#[]⟩, .string ⟨#[]⟩, .int .i64 0, .string ⟨#[]⟩, .string ⟨#[]⟩, .int .u64 0, .int .u8 5, .string ⟨#[]⟩, .int .i64 0, .int .i64 0, .int .i64 0, .slice none 0 0, .slice none 0 0, .string ⟨#[]⟩, .int .i64 0, .int .i64 0, .int .i64 0, .slice none 0 0, .slice none 0 0, .string ⟨#[]⟩, .string ⟨#[]⟩, .int .i64 0, .string ⟨#[97]⟩, .string ⟨#[110]⟩, .int .u64 0] ∧ Below w.heap.size w wx ∧ w.heap.size + 1 + 1 ≤ wx.heap.size
set_option maxRecDepth 100000 in
set_option maxHeartbeats 4000000 in
theorem lives_any (w : World) : Calls Tryz.prog 13 #[] w fun e w' => e = .returned (.bool true) ∧ Below w.heap.size w w' := by
 go_enter Tryz.func13, Tryz.ntmps13
 go_upto_region 1 with fail
 refine wp_region_list ?_
 refine wpList_plain rfl fun K hK => ?_
 go_simp
 refine hK _ _ ?_
 clear hK K
 refine wpList_plain rfl fun K hK => ?_
 go_simp
 refine hK _ _ ?_
 clear hK K
 obtain ⟨th1, hbz, hx1⟩ := one_made w [.slice none 0 0, .slice none 0 0, .slice none 0 0, .int .u64 0] [.slice none 0 0, .slice none 0 0, .slice none 0 0, .int .u64 0] 27 rfl
 refine store_l rfl 27 (.tmp 1) (.tmp 14) rfl (w.heap.size) [.slice none 0 0, .slice none 0 0, .slice none 0 0, .int .u64 0] rfl rfl th1 rfl rfl ?_
 have hz1 : ((w.alloc (.cells #[.slice none 0 0, .slice none 0 0, .slice none 0 0, .int .u64 0] 27)).setCells w.heap.size 0 [.slice none 0 0, .slice none 0 0, .slice none 0 0, .int .u64 0]).heap.size = w.heap.size + 1 := by simp [World.setCells, World.setCell]
 clear th1
 generalize (w.alloc (.cells #[.slice none 0 0, .slice none 0 0, .slice none 0 0, .int .u64 0] 27)).setCells w.heap.size 0 [.slice none 0 0, .slice none 0 0, .slice none 0 0, .int .u64 0] = w1 at *
 refine wpList_nil ?_
 obtain ⟨w2, hw2⟩ : ∃ w2, w2 = w1.alloc (.cells #[.int .u8 1, .string ⟨#[110]⟩, .int .i64 5, .int .i64 0, .int .i64 0, .slice none 0 0, .slice none 0 0, .string ⟨#[]⟩, .int .i64 0, .int .i64 0, .int .i64 0, .slice none 0 0, .slice none 0 0, .string ⟨#[]⟩, .string ⟨#[]⟩, .int .i64 0, .string ⟨#[]⟩, .string ⟨#[]⟩, .int .u64 0, .int .u8 3, .string ⟨#[]⟩, .int .i64 0, .int .i64 0, .int .i64 0, .slice none 0 0, .slice none 0 0, .string ⟨#[97]⟩, .int .i64 3, .int .i64 0, .int .i64 0, .slice none 0 0, .slice none 0 0, .string ⟨#[]⟩, .string ⟨#[]⟩, .int .i64 0, .string ⟨#[]⟩, .string ⟨#[]⟩, .int .u64 0, .int .u8 3, .string ⟨#[]⟩, .int .i64 0, .int .i64 0, .int .i64 0, .slice none 0 0, .slice none 0 0, .string ⟨#[98]⟩, .int .i64 3, .int .i64 0, .int .i64 0, .slice none 0 0, .slice none 0 0, .string ⟨#[]⟩, .string ⟨#[]⟩, .int .i64 0, .string ⟨#[]⟩, .string ⟨#[]⟩, .int .u64 0, .int .u8 5, .string ⟨#[]⟩, .int .i64 0, .int .i64 0, .int .i64 0, .slice none 0 0, .slice none 0 0, .string ⟨#[]⟩, .int .i64 0, .int .i64 0, .int .i64 0, .slice none 0 0, .slice none 0 0, .string ⟨#[]⟩, .string ⟨#[]⟩, .int .i64 0, .string ⟨#[97]⟩, .string ⟨#[110]⟩, .int .u64 0] 36) := ⟨_, rfl⟩
 have h12 : Below w1.heap.size w1 w2 := by rw [hw2]; exact al w1 _
 have HR0 : Hid (Hd.Bxn w2 (w.heap.size + 1) [.int .u8 1, .string ⟨#[110]⟩, .int .i64 5, .int .i64 0, .int .i64 0, .slice none 0 0, .slice none 0 0, .string ⟨#[]⟩, .int .i64 0, .int .i64 0, .int .i64 0, .slice none 0 0, .slice none 0 0, .string ⟨#[]⟩, .string ⟨#[]⟩, .int .i64 0, .string ⟨#[]⟩, .string ⟨#[]⟩, .int .u64 0, .int .u8 3, .string ⟨#[]⟩, .int .i64 0, .int .i64 0, .int .i64 0, .slice none 0 0, .slice none 0 0, .string ⟨#[97]⟩, .int .i64 3, .int .i64 0, .int .i64 0, .slice none 0 0, .slice none 0 0, .string ⟨#[]⟩, .string ⟨#[]⟩, .int .i64 0, .string ⟨#[]⟩, .string ⟨#[]⟩, .int .u64 0, .int .u8 3, .string ⟨#[]⟩, .int .i64 0, .int .i64 0, .int .i64 0, .slice none 0 0, .slice none 0 0, .string ⟨#[98]⟩, .int .i64 3, .int .i64 0, .int .i64 0, .slice none 0 0, .slice none 0 0, .string ⟨#[]⟩, .string ⟨#[]⟩, .int .i64 0, .string ⟨#[]⟩, .string ⟨#[]⟩, .int .u64 0, .int .u8 5, .string ⟨#[]⟩, .int .i64 0, .int .i64 0, .int .i64 0, .slice none 0 0, .slice none 0 0, .string ⟨#[]⟩, .int .i64 0, .int .i64 0, .int .i64 0, .slice none 0 0, .slice none 0 0, .string ⟨#[]⟩, .string ⟨#[]⟩, .int .i64 0, .string ⟨#[97]⟩, .string ⟨#[110]⟩, .int .u64 0]) := Lib.hid (by rw [hw2, ← hz1]; exact Hd.Bxn.made w1 _ _)
 have HP0 : Hid (Hd.Bxn w2 w.heap.size [.slice none 0 0, .slice none 0 0, .slice none 0 0, .int .u64 0]) := hx1.below h12
 have HB0 : Hid (Below w.heap.size w w2) := hbz.trans (h12.mono hbz.size)
 have HS0 : Hid (w.heap.size + 1 + 1 ≤ w2.heap.size) := Lib.hid (by rw [hw2, World.size_alloc, hz1]; exact Nat.le_refl _)
 have HW2 := Lib.hid hw2
 have HZ1 := Lib.hid hz1
 clear hx1 hbz h12 hw2 hz1
 go_upto_region 3 with fail
 rw [HZ1.out, ← HW2.out]
 go_loopg [27] 4 (fun gg i wx => ∃ k : Nat, k + gg = 4 ∧ i = .int .i64 k ∧ Aside (LvS w wx k))
 case atStart => exact ⟨0, by omega, rfl, ⟨_, _, _, HP0.out, ⟨Nds.nil _ _, Tds.nil _ _, Bds.nil _ _, by decide⟩, HR0.out, HB0.out, HS0.out⟩⟩
 case round =>
  obtain ⟨k, hkg, rfl, HA⟩ := hrel
  cases gk with
  | zero =>
    obtain rfl : k = 4 := by omega
    clear hkg
    obtain ⟨vn, vt, vb, hp, hbk, hr, hb, hs⟩ := HA.out
    obtain ⟨⟨a0, c0, rfl⟩, ⟨b0, d0, rfl⟩, ⟨e0, f0, rfl⟩⟩ := And.intro hbk.hn.slice (And.intro hbk.ht.slice hbk.hb.slice)
    have HP : Hid (Hd.Bxn wr w.heap.size [.slice a0 (bk4).ns.length c0, .slice b0 (bk4).ts.length d0, .slice e0 (bk4).bs.length f0, .int .u64 ((bk4).fe : Nat)]) := hp
    have HBK : Hid (Books wr wr.heap.size (.slice a0 (bk4).ns.length c0) (.slice b0 (bk4).ts.length d0) (.slice e0 (bk4).bs.length f0) (bk4)) := hbk
    have HB : Hid (Below w.heap.size w wr) := hb
    clear hp hbk hr hb hs HA HP0 HR0 HB0 HS0
    have HD10 : Hid (∀ z a c a' c' a'' c'', Hid (Books z z.heap.size (.slice a (bk4).ns.length c) (.slice a' (bk4).ts.length c') (.slice a'' (bk4).bs.length c'') (bk4)) → Calls Tryz.prog 11 #[.agg #[.slice a (bk4).ns.length c, .slice a' (bk4).ts.length c', .slice a'' (bk4).bs.length c'', .int .u64 ((bk4).fe : Nat)], .agg #[.int .u8 5, .string ⟨#[]⟩, .int .i64 0, .int .i64 0, .int .i64 0, .slice none 0 0, .slice none 0 0, .string ⟨#[]⟩, .int .i64 0, .int .i64 0, .int .i64 0, .slice none 0 0, .slice none 0 0, .string ⟨#[]⟩, .string ⟨#[]⟩, .int .i64 0, .string ⟨#[98]⟩, .string ⟨#[110]⟩, .int .u64 0]] z fun e w' => ∃ vn' vt' vb', e = .returned (.tuple #[.agg #[vn', vt', vb', .int .u64 ((bk4).fe : Nat)], .agg #[.int .i64 13, .string ⟨#[]⟩]]) ∧ Kept z w' (bk4) vn' vt' vb' ∧ Below z.heap.size z w') := fun z a c a' c' a'' c'' hz => do_use (bk4) (bk4) _ _ _ _ _ (lvO Hd.nd0 Hd.td0 5 ⟨#[98]⟩ ⟨#[110]⟩ 0) none none none none 0 0 0 0 z hz.out (deepN0 z _ rfl rfl) fitN0 (deepT0 z _ rfl rfl) fitT0 ⟨by unfold FitS; decide +kernel, by unfold FitS; decide +kernel⟩ lv4
    have HD11 : Hid (∀ z a c a' c' a'' c'', Hid (Books z z.heap.size (.slice a (bk4).ns.length c) (.slice a' (bk4).ts.length c') (.slice a'' (bk4).bs.length c'') (bk4)) → Calls Tryz.prog 11 #[.agg #[.slice a (bk4).ns.length c, .slice a' (bk4).ts.length c', .slice a'' (bk4).bs.length c'', .int .u64 ((bk4).fe : Nat)], .agg #[.int .u8 7, .string ⟨#[]⟩, .int .i64 0, .int .i64 0, .int .i64 0, .slice none 0 0, .slice none 0 0, .string ⟨#[]⟩, .int .i64 0, .int .i64 0, .int .i64 0, .slice none 0 0, .slice none 0 0, .string ⟨#[]⟩, .string ⟨#[]⟩, .int .i64 0, .string ⟨#[97]⟩, .string ⟨#[]⟩, .int .u64 0]] z fun e w' => ∃ vn' vt' vb', e = .returned (.tuple #[.agg #[vn', vt', vb', .int .u64 ((bk4).fe : Nat)], .agg #[.int .i64 0, .string ⟨#[110]⟩]]) ∧ Kept z w' (bk4) vn' vt' vb' ∧ Below z.heap.size z w') := fun z a c a' c' a'' c'' hz => do_use (bk4) (bk4) _ _ _ _ _ (lvO Hd.nd0 Hd.td0 7 ⟨#[97]⟩ ⟨#[]⟩ 0) none none none none 0 0 0 0 z hz.out (deepN0 z _ rfl rfl) fitN0 (deepT0 z _ rfl rfl) fitT0 ⟨by unfold FitS; decide +kernel, by unfold FitS; decide +kernel⟩ lv5
    have HD13 : Hid (∀ z a c a' c' a'' c'', Hid (Books z z.heap.size (.slice a (bk5).ns.length c) (.slice a' (bk5).ts.length c') (.slice a'' (bk5).bs.length c'') (bk5)) → Calls Tryz.prog 11 #[.agg #[.slice a (bk5).ns.length c, .slice a' (bk5).ts.length c', .slice a'' (bk5).bs.length c'', .int .u64 ((bk5).fe : Nat)], .agg #[.int .u8 5, .string ⟨#[]⟩, .int .i64 0, .int .i64 0, .int .i64 0, .slice none 0 0, .slice none 0 0, .string ⟨#[]⟩, .int .i64 0, .int .i64 0, .int .i64 0, .slice none 0 0, .slice none 0 0, .string ⟨#[]⟩, .string ⟨#[]⟩, .int .i64 0, .string ⟨#[98]⟩, .string ⟨#[110]⟩, .int .u64 2]] z fun e w' => ∃ vn' vt' vb', e = .returned (.tuple #[.agg #[vn', vt', vb', .int .u64 ((bk5).fe : Nat)], .agg #[.int .i64 14, .string ⟨#[]⟩]]) ∧ Kept z w' (bk5) vn' vt' vb' ∧ Below z.heap.size z w') := fun z a c a' c' a'' c'' hz => do_use (bk5) (bk5) _ _ _ _ _ (lvO Hd.nd0 Hd.td0 5 ⟨#[98]⟩ ⟨#[110]⟩ 2) none none none none 0 0 0 0 z hz.out (deepN0 z _ rfl rfl) fitN0 (deepT0 z _ rfl rfl) fitT0 ⟨by unfold FitS; decide +kernel, by unfold FitS; decide +kernel⟩ lv7
    have HL : Hid (∀ z a c a' c' a'' c'', Hid (Books z z.heap.size (.slice a (bk4).ns.length c) (.slice a' (bk4).ts.length c') (.slice a'' (bk4).bs.length c'') (bk4)) → Calls Tryz.prog 19 #[.agg #[.slice a (bk4).ns.length c, .slice a' (bk4).ts.length c', .slice a'' (bk4).bs.length c'', .int .u64 ((bk4).fe : Nat)], .int .u64 3] z fun e w' => ∃ vn' vt' vb', e = .returned (.tuple #[.agg #[vn', vt', vb', .int .u64 ((bk5).fe : Nat)], .int .i64 0]) ∧ Kept z w' (bk5) vn' vt' vb' ∧ Below z.heap.size z w') := fun z a c a' c' a'' c'' hz => lead_use bk4 bk5 0 3 _ _ _ z hz.out (by decide) lv6
    go_upto_region 10 with fail
    refine wp_region_list ?_
    refine wpList_load_mid rfl 27 (.tmp 1) rfl (w.heap.size) (0) rfl [.slice a0 (bk4).ns.length c0, .slice b0 (bk4).ts.length d0, .slice e0 (bk4).bs.length f0, .int .u64 ((bk4).fe : Nat)] _ (HP.out.range 0) Tryz.underlying27 rfl rfl ?_
    refine wpList_plain rfl fun K hK => ?_
    go_simp
    refine hK _ _ ?_
    clear hK K
    refine wpList_plain rfl fun K hK => ?_
    go_wp2_with fail
    refine (HD10.out wr _ _ _ _ _ _ HBK).mono ?_
    rintro e x10m ⟨v1, v2, v3, rfl, hkp, hb⟩
    obtain ⟨⟨a1, c1, rfl⟩, ⟨b1, d1, rfl⟩, ⟨e1, f1, rfl⟩⟩ := hkp.slices
    refine hK _ _ ?_
    clear hK K
    have HPm := Lib.hid (HP.out.below hb)
    have HBx10m : Hid (Below w.heap.size w x10m) := HB.out.trans (hb.mono HB.out.size)
    have HKx10 := Lib.hid (hkp)
    have HOx10 := Lib.hid (HBK.out.on hb)
    clear hb hkp
    refine wpList_plain rfl fun K hK => ?_
    go_simp
    refine hK _ _ ?_
    clear hK K
    refine wpList_plain rfl fun K hK => ?_
    go_simp
    refine hK _ _ ?_
    clear hK K
    refine wpList_plain rfl fun K hK => ?_
    go_simp
    refine hK _ _ ?_
    clear hK K
    refine wpList_plain rfl fun K hK => ?_
    go_simp
    refine hK _ _ ?_
    clear hK K
    refine wpList_plain rfl fun K hK => ?_
    go_simp
    refine hK _ _ ?_
    clear hK K
    obtain ⟨th1, th2, hbz, hx1, hx2⟩ := two_made x10m [.slice none 0 0, .slice none 0 0, .slice none 0 0, .int .u64 0] [.int .i64 0, .string ⟨#[]⟩] [.slice a1 (bk4).ns.length c1, .slice b1 (bk4).ts.length d1, .slice e1 (bk4).bs.length f1, .int .u64 ((bk4).fe : Nat)] [.int .i64 13, .string ⟨#[]⟩] 27 40 rfl rfl
    refine store_l rfl 27 (.tmp 6) (.tmp 46) rfl (x10m.heap.size) [.slice a1 (bk4).ns.length c1, .slice b1 (bk4).ts.length d1, .slice e1 (bk4).bs.length f1, .int .u64 ((bk4).fe : Nat)] rfl rfl th1 rfl rfl ?_
    refine store_l rfl 40 (.tmp 7) (.tmp 47) rfl (x10m.heap.size + 1) [.int .i64 13, .string ⟨#[]⟩] rfl rfl th2 rfl rfl ?_
    clear th1 th2
    generalize (((x10m.alloc (.cells #[.slice none 0 0, .slice none 0 0, .slice none 0 0, .int .u64 0] 27)).alloc (.cells #[.int .i64 0, .string ⟨#[]⟩] 40)).setCells x10m.heap.size 0 [.slice a1 (bk4).ns.length c1, .slice b1 (bk4).ts.length d1, .slice e1 (bk4).bs.length f1, .int .u64 ((bk4).fe : Nat)]).setCells (x10m.heap.size + 1) 0 [.int .i64 13, .string ⟨#[]⟩] = x10 at *
    refine wpList_nil ?_
    have HP2 := Lib.hid (HPm.out.below hbz)
    clear HP HPm
    have HP := HP2
    clear HP2
    have HBx10 : Hid (Below w.heap.size w x10) := HBx10m.out.trans (hbz.mono HBx10m.out.size)
    have HKNx10 := Lib.hid (HKx10.out.keep hbz)
    have HONx10 := Lib.hid (HOx10.out.on hbz)
    have HXx10 := Lib.hid hx1
    have HTx10 := Lib.hid hx2
    clear hbz hx1 hx2 HKx10 HOx10 HBx10m
    clear HD10 HB HBK HKNx10 HXx10
    go_upto_region 11 with fail
    refine wp_region_list ?_
    refine wpList_load_mid rfl 27 (.tmp 1) rfl (w.heap.size) (0) rfl [.slice a0 (bk4).ns.length c0, .slice b0 (bk4).ts.length d0, .slice e0 (bk4).bs.length f0, .int .u64 ((bk4).fe : Nat)] _ (HP.out.range 0) Tryz.underlying27 rfl rfl ?_
    refine wpList_plain rfl fun K hK => ?_
    go_simp
    refine hK _ _ ?_
    clear hK K
    refine wpList_plain rfl fun K hK => ?_
    go_wp2_with fail
    refine (HD11.out x10 _ _ _ _ _ _ HONx10).mono ?_
    rintro e x11m ⟨v1, v2, v3, rfl, hkp, hb⟩
    obtain ⟨⟨a2, c2, rfl⟩, ⟨b2, d2, rfl⟩, ⟨e2, f2, rfl⟩⟩ := hkp.slices
    refine hK _ _ ?_
    clear hK K
    have HPm := Lib.hid (HP.out.below hb)
    have HTx10m := Lib.hid (HTx10.out.below hb)
    have HBx11m : Hid (Below w.heap.size w x11m) := HBx10.out.trans (hb.mono HBx10.out.size)
    have HKx11 := Lib.hid (hkp)
    have HOx11 := Lib.hid (HONx10.out.on hb)
    clear hb hkp
    refine wpList_plain rfl fun K hK => ?_
    go_simp
    refine hK _ _ ?_
    clear hK K
    refine wpList_plain rfl fun K hK => ?_
    go_simp
    refine hK _ _ ?_
    clear hK K
    refine wpList_plain rfl fun K hK => ?_
    go_simp
    refine hK _ _ ?_
    clear hK K
    refine wpList_plain rfl fun K hK => ?_
    go_simp
    refine hK _ _ ?_
    clear hK K
    refine wpList_plain rfl fun K hK => ?_
    go_simp
    refine hK _ _ ?_
    clear hK K
    obtain ⟨th1, th2, hbz, hx1, hx2⟩ := two_made x11m [.slice none 0 0, .slice none 0 0, .slice none 0 0, .int .u64 0] [.int .i64 0, .string ⟨#[]⟩] [.slice a2 (bk4).ns.length c2, .slice b2 (bk4).ts.length d2, .slice e2 (bk4).bs.length f2, .int .u64 ((bk4).fe : Nat)] [.int .i64 0, .string ⟨#[110]⟩] 27 40 rfl rfl
    refine store_l rfl 27 (.tmp 8) (.tmp 52) rfl (x11m.heap.size) [.slice a2 (bk4).ns.length c2, .slice b2 (bk4).ts.length d2, .slice e2 (bk4).bs.length f2, .int .u64 ((bk4).fe : Nat)] rfl rfl th1 rfl rfl ?_
    refine store_l rfl 40 (.tmp 9) (.tmp 53) rfl (x11m.heap.size + 1) [.int .i64 0, .string ⟨#[110]⟩] rfl rfl th2 rfl rfl ?_
    clear th1 th2
    generalize (((x11m.alloc (.cells #[.slice none 0 0, .slice none 0 0, .slice none 0 0, .int .u64 0] 27)).alloc (.cells #[.int .i64 0, .string ⟨#[]⟩] 40)).setCells x11m.heap.size 0 [.slice a2 (bk4).ns.length c2, .slice b2 (bk4).ts.length d2, .slice e2 (bk4).bs.length f2, .int .u64 ((bk4).fe : Nat)]).setCells (x11m.heap.size + 1) 0 [.int .i64 0, .string ⟨#[110]⟩] = x11 at *
    refine wpList_nil ?_
    have HP2 := Lib.hid (HPm.out.below hbz)
    clear HP HPm
    have HP := HP2
    clear HP2
    have HTx102 := Lib.hid (HTx10m.out.below hbz)
    clear HTx10 HTx10m
    have HTx10 := HTx102
    clear HTx102
    have HBx11 : Hid (Below w.heap.size w x11) := HBx11m.out.trans (hbz.mono HBx11m.out.size)
    have HKNx11 := Lib.hid (HKx11.out.keep hbz)
    have HONx11 := Lib.hid (HOx11.out.on hbz)
    have HXx11 := Lib.hid hx1
    have HTx11 := Lib.hid hx2
    clear hbz hx1 hx2 HKx11 HOx11 HBx11m
    clear HD11 HBx10 HONx10 HKNx11 HXx11
    go_upto_region 12 with fail
    refine wp_region_list ?_
    refine wpList_load_mid rfl 27 (.tmp 1) rfl (w.heap.size) (0) rfl [.slice a0 (bk4).ns.length c0, .slice b0 (bk4).ts.length d0, .slice e0 (bk4).bs.length f0, .int .u64 ((bk4).fe : Nat)] _ (HP.out.range 0) Tryz.underlying27 rfl rfl ?_
    refine wpList_plain rfl fun K hK => ?_
    go_wp2_with fail
    refine (HL.out x11 _ _ _ _ _ _ HONx11).mono ?_
    rintro e x12m ⟨v1, v2, v3, rfl, hkp, hb⟩
    obtain ⟨⟨a3, c3, rfl⟩, ⟨b3, d3, rfl⟩, ⟨e3, f3, rfl⟩⟩ := hkp.slices
    refine hK _ _ ?_
    clear hK K
    have HPm := Lib.hid (HP.out.below hb)
    have HTx10m := Lib.hid (HTx10.out.below hb)
    have HTx11m := Lib.hid (HTx11.out.below hb)
    have HBx12m : Hid (Below w.heap.size w x12m) := HBx11.out.trans (hb.mono HBx11.out.size)
    have HKx12 := Lib.hid hkp
    clear hb hkp
    refine wpList_plain rfl fun K hK => ?_
    go_simp
    refine hK _ _ ?_
    clear hK K
    refine wpList_plain rfl fun K hK => ?_
    go_simp
    refine hK _ _ ?_
    clear hK K
    refine wpList_plain rfl fun K hK => ?_
    go_simp
    refine hK _ _ ?_
    clear hK K
    refine wpList_plain rfl fun K hK => ?_
    go_simp
    refine hK _ _ ?_
    clear hK K
    obtain ⟨th1, hbz, hx1⟩ := one_made x12m [.slice none 0 0, .slice none 0 0, .slice none 0 0, .int .u64 0] [.slice a3 (bk5).ns.length c3, .slice b3 (bk5).ts.length d3, .slice e3 (bk5).bs.length f3, .int .u64 ((bk5).fe : Nat)] 27 rfl
    refine store_l rfl 27 (.tmp 10) (.tmp 57) rfl (x12m.heap.size) [.slice a3 (bk5).ns.length c3, .slice b3 (bk5).ts.length d3, .slice e3 (bk5).bs.length f3, .int .u64 ((bk5).fe : Nat)] rfl rfl th1 rfl rfl ?_
    clear th1
    generalize (x12m.alloc (.cells #[.slice none 0 0, .slice none 0 0, .slice none 0 0, .int .u64 0] 27)).setCells x12m.heap.size 0 [.slice a3 (bk5).ns.length c3, .slice b3 (bk5).ts.length d3, .slice e3 (bk5).bs.length f3, .int .u64 ((bk5).fe : Nat)] = x12 at *
    refine wpList_plain rfl fun K hK => ?_
    go_simp
    refine hK _ _ ?_
    clear hK K
    refine wpList_nil ?_
    have HP2 := Lib.hid (HPm.out.below hbz)
    clear HP HPm
    have HP := HP2
    clear HP2
    have HTx102 := Lib.hid (HTx10m.out.below hbz)
    clear HTx10 HTx10m
    have HTx10 := HTx102
    clear HTx102
    have HTx112 := Lib.hid (HTx11m.out.below hbz)
    clear HTx11 HTx11m
    have HTx11 := HTx112
    clear HTx112
    have HBx12 : Hid (Below w.heap.size w x12) := HBx12m.out.trans (hbz.mono HBx12m.out.size)
    have HBKx12 := Lib.hid (HKx12.out.keep hbz).books
    have HXx12 := Lib.hid hx1
    clear hbz hx1 HKx12 HBx12m HL HONx11 HBx11
    go_upto_region 13 with fail
    refine wp_region_list ?_
    refine wpList_load_mid rfl 27 (.tmp 10) rfl (x12m.heap.size) (0) rfl [.slice a3 (bk5).ns.length c3, .slice b3 (bk5).ts.length d3, .slice e3 (bk5).bs.length f3, .int .u64 ((bk5).fe : Nat)] _ (HXx12.out.range 0) Tryz.underlying27 rfl rfl ?_
    refine wpList_plain rfl fun K hK => ?_
    go_simp
    refine hK _ _ ?_
    clear hK K
    refine wpList_plain rfl fun K hK => ?_
    go_wp2_with fail
    refine (HD13.out x12 _ _ _ _ _ _ HBKx12).mono ?_
    rintro e x13m ⟨v1, v2, v3, rfl, hkp, hb⟩
    obtain ⟨⟨a4, c4, rfl⟩, ⟨b4, d4, rfl⟩, ⟨e4, f4, rfl⟩⟩ := hkp.slices
    refine hK _ _ ?_
    clear hK K
    have HPm := Lib.hid (HP.out.below hb)
    have HTx10m := Lib.hid (HTx10.out.below hb)
    have HTx11m := Lib.hid (HTx11.out.below hb)
    have HBx13m : Hid (Below w.heap.size w x13m) := HBx12.out.trans (hb.mono HBx12.out.size)
    have HKx13 := Lib.hid (hkp)
    have HOx13 := Lib.hid (HBKx12.out.on hb)
    clear hb hkp
    refine wpList_plain rfl fun K hK => ?_
    go_simp
    refine hK _ _ ?_
    clear hK K
    refine wpList_plain rfl fun K hK => ?_
    go_simp
    refine hK _ _ ?_
    clear hK K
    refine wpList_plain rfl fun K hK => ?_
    go_simp
    refine hK _ _ ?_
    clear hK K
    refine wpList_plain rfl fun K hK => ?_
    go_simp
    refine hK _ _ ?_
    clear hK K
    refine wpList_plain rfl fun K hK => ?_
    go_simp
    refine hK _ _ ?_
    clear hK K
    obtain ⟨th1, th2, hbz, hx1, hx2⟩ := two_made x13m [.slice none 0 0, .slice none 0 0, .slice none 0 0, .int .u64 0] [.int .i64 0, .string ⟨#[]⟩] [.slice a4 (bk5).ns.length c4, .slice b4 (bk5).ts.length d4, .slice e4 (bk5).bs.length f4, .int .u64 ((bk5).fe : Nat)] [.int .i64 14, .string ⟨#[]⟩] 27 40 rfl rfl
    refine store_l rfl 27 (.tmp 12) (.tmp 63) rfl (x13m.heap.size) [.slice a4 (bk5).ns.length c4, .slice b4 (bk5).ts.length d4, .slice e4 (bk5).bs.length f4, .int .u64 ((bk5).fe : Nat)] rfl rfl th1 rfl rfl ?_
    refine store_l rfl 40 (.tmp 13) (.tmp 64) rfl (x13m.heap.size + 1) [.int .i64 14, .string ⟨#[]⟩] rfl rfl th2 rfl rfl ?_
    clear th1 th2
    generalize (((x13m.alloc (.cells #[.slice none 0 0, .slice none 0 0, .slice none 0 0, .int .u64 0] 27)).alloc (.cells #[.int .i64 0, .string ⟨#[]⟩] 40)).setCells x13m.heap.size 0 [.slice a4 (bk5).ns.length c4, .slice b4 (bk5).ts.length d4, .slice e4 (bk5).bs.length f4, .int .u64 ((bk5).fe : Nat)]).setCells (x13m.heap.size + 1) 0 [.int .i64 14, .string ⟨#[]⟩] = x13 at *
    refine wpList_nil ?_
    have HP2 := Lib.hid (HPm.out.below hbz)
    clear HP HPm
    have HP := HP2
    clear HP2
    have HTx102 := Lib.hid (HTx10m.out.below hbz)
    clear HTx10 HTx10m
    have HTx10 := HTx102
    clear HTx102
    have HTx112 := Lib.hid (HTx11m.out.below hbz)
    clear HTx11 HTx11m
    have HTx11 := HTx112
    clear HTx112
    have HBx13 : Hid (Below w.heap.size w x13) := HBx13m.out.trans (hbz.mono HBx13m.out.size)
    have HKNx13 := Lib.hid (HKx13.out.keep hbz)
    have HONx13 := Lib.hid (HOx13.out.on hbz)
    have HXx13 := Lib.hid hx1
    have HTx13 := Lib.hid hx2
    clear hbz hx1 hx2 HKx13 HOx13 HBx13m
    have t0 : x13.cell? ⟨x10m.heap.size + 1, 0, none⟩ = some (.int .i64 13) := HTx10.out.cell 0
    have t1 : x13.cell? ⟨x11m.heap.size + 1, 0, none⟩ = some (.int .i64 0) := HTx11.out.cell 0
    have t2 : x13.cell? ⟨x11m.heap.size + 1, 1, none⟩ = some (.string ⟨#[110]⟩) := HTx11.out.cell 1
    have t3 : x13.cell? ⟨x13m.heap.size + 1, 0, none⟩ = some (.int .i64 14) := HTx13.out.cell 0
    have t4 : x13.cell? ⟨w.heap.size, 1, none⟩ = some (.slice b0 2 d0) := HP.out.cell 1
    go_wp2
    go_ret
    exact ⟨rfl, HBx13.out⟩
  | succ gg =>
    have hk4 : k < 4 := by omega
    obtain ⟨vn, vt, vb, hp, hbk, hr, hb, hs⟩ := HA.out
    have HR := Lib.hid hr
    have HB := Lib.hid hb
    have HS := Lib.hid hs
    clear hr hb hs HA HP0 HR0 HB0 HS0
    rcases k with _ | _ | _ | _ | k
    · obtain ⟨⟨a0, c0, rfl⟩, ⟨b0, d0, rfl⟩, ⟨e0, f0, rfl⟩⟩ := And.intro hbk.hn.slice (And.intro hbk.ht.slice hbk.hb.slice)
      have HP : Hid (Hd.Bxn wr w.heap.size [.slice a0 (bk0).ns.length c0, .slice b0 (bk0).ts.length d0, .slice e0 (bk0).bs.length f0, .int .u64 ((bk0).fe : Nat)]) := hp
      have HBK : Hid (Books wr wr.heap.size (.slice a0 (bk0).ns.length c0) (.slice b0 (bk0).ts.length d0) (.slice e0 (bk0).bs.length f0) (bk0)) := hbk
      clear hp hbk
      have HDO : Hid (∀ z a c a' c' a'' c'', Hid (Books z z.heap.size (.slice a (bk0).ns.length c) (.slice a' (bk0).ts.length c') (.slice a'' (bk0).bs.length c'') (bk0)) → Calls Tryz.prog 11 #[.agg #[.slice a (bk0).ns.length c, .slice a' (bk0).ts.length c', .slice a'' (bk0).bs.length c'', .int .u64 ((bk0).fe : Nat)], .agg #[.int .u8 1, .string ⟨#[110]⟩, .int .i64 5, .int .i64 0, .int .i64 0, .slice none 0 0, .slice none 0 0, .string ⟨#[]⟩, .int .i64 0, .int .i64 0, .int .i64 0, .slice none 0 0, .slice none 0 0, .string ⟨#[]⟩, .string ⟨#[]⟩, .int .i64 0, .string ⟨#[]⟩, .string ⟨#[]⟩, .int .u64 0]] z fun e w' => ∃ vn' vt' vb', e = .returned (.tuple #[.agg #[vn', vt', vb', .int .u64 ((bk1).fe : Nat)], .agg #[.int .i64 0, .string ⟨#[]⟩]]) ∧ Kept z w' (bk1) vn' vt' vb' ∧ Below z.heap.size z w') := fun z a c a' c' a'' c'' hz => do_use (bk0) (bk1) _ _ _ _ _ (oNode) none none none none 0 0 0 0 z hz.out (deepN0 z _ rfl rfl) fitN1 (deepT0 z _ rfl rfl) fitT0 ⟨by unfold FitS; decide +kernel, by unfold FitS; decide +kernel⟩ lv0
      go_upto_region 4 with fail
      refine wp_region_list ?_
      refine wpList_plain rfl fun K hK => ?_
      go_simp
      refine hK _ _ ?_
      clear hK K
      have hrg := rng_mid HR.out 0 [.int .u8 1, .string ⟨#[110]⟩, .int .i64 5, .int .i64 0, .int .i64 0, .slice none 0 0, .slice none 0 0, .string ⟨#[]⟩, .int .i64 0, .int .i64 0, .int .i64 0, .slice none 0 0, .slice none 0 0, .string ⟨#[]⟩, .string ⟨#[]⟩, .int .i64 0, .string ⟨#[]⟩, .string ⟨#[]⟩, .int .u64 0] rfl
      refine wpList_load_mid rfl 36 (.tmp 29) rfl (w.heap.size + 1) (0) rfl [.int .u8 1, .string ⟨#[110]⟩, .int .i64 5, .int .i64 0, .int .i64 0, .slice none 0 0, .slice none 0 0, .string ⟨#[]⟩, .int .i64 0, .int .i64 0, .int .i64 0, .slice none 0 0, .slice none 0 0, .string ⟨#[]⟩, .string ⟨#[]⟩, .int .i64 0, .string ⟨#[]⟩, .string ⟨#[]⟩, .int .u64 0] _ (hrg) Tryz.underlying36 rfl rfl ?_
      clear hrg
      refine wpList_plain rfl fun K hK => ?_
      go_simp
      refine hK _ _ ?_
      clear hK K
      obtain ⟨th1, hbz, hx1⟩ := one_made wr [.int .u8 0, .string ⟨#[]⟩, .int .i64 0, .int .i64 0, .int .i64 0, .slice none 0 0, .slice none 0 0, .string ⟨#[]⟩, .int .i64 0, .int .i64 0, .int .i64 0, .slice none 0 0, .slice none 0 0, .string ⟨#[]⟩, .string ⟨#[]⟩, .int .i64 0, .string ⟨#[]⟩, .string ⟨#[]⟩, .int .u64 0] [.int .u8 1, .string ⟨#[110]⟩, .int .i64 5, .int .i64 0, .int .i64 0, .slice none 0 0, .slice none 0 0, .string ⟨#[]⟩, .int .i64 0, .int .i64 0, .int .i64 0, .slice none 0 0, .slice none 0 0, .string ⟨#[]⟩, .string ⟨#[]⟩, .int .i64 0, .string ⟨#[]⟩, .string ⟨#[]⟩, .int .u64 0] 36 rfl
      refine store_l rfl 36 (.tmp 3) (.tmp 30) rfl (wr.heap.size) [.int .u8 1, .string ⟨#[110]⟩, .int .i64 5, .int .i64 0, .int .i64 0, .slice none 0 0, .slice none 0 0, .string ⟨#[]⟩, .int .i64 0, .int .i64 0, .int .i64 0, .slice none 0 0, .slice none 0 0, .string ⟨#[]⟩, .string ⟨#[]⟩, .int .i64 0, .string ⟨#[]⟩, .string ⟨#[]⟩, .int .u64 0] rfl rfl th1 rfl rfl ?_
      clear th1
      generalize (wr.alloc (.cells #[.int .u8 0, .string ⟨#[]⟩, .int .i64 0, .int .i64 0, .int .i64 0, .slice none 0 0, .slice none 0 0, .string ⟨#[]⟩, .int .i64 0, .int .i64 0, .int .i64 0, .slice none 0 0, .slice none 0 0, .string ⟨#[]⟩, .string ⟨#[]⟩, .int .i64 0, .string ⟨#[]⟩, .string ⟨#[]⟩, .int .u64 0] 36)).setCells wr.heap.size 0 [.int .u8 1, .string ⟨#[110]⟩, .int .i64 5, .int .i64 0, .int .i64 0, .slice none 0 0, .slice none 0 0, .string ⟨#[]⟩, .int .i64 0, .int .i64 0, .int .i64 0, .slice none 0 0, .slice none 0 0, .string ⟨#[]⟩, .string ⟨#[]⟩, .int .i64 0, .string ⟨#[]⟩, .string ⟨#[]⟩, .int .u64 0] = w3 at *
      have HQ := Lib.hid hx1
      have HP3 := Lib.hid (HP.out.below hbz)
      have HR3 := Lib.hid (HR.out.below hbz)
      have HB3 : Hid (Below w.heap.size w w3) := HB.out.trans (hbz.mono HB.out.size)
      have HK3 := Lib.hid (HBK.out.on hbz)
      have HS3 : Hid (w.heap.size + 1 + 1 ≤ w3.heap.size) := Nat.le_trans HS.out hbz.size
      clear hx1 hbz HP HR HB HBK HS
      refine wpList_nil ?_
      go_upto_region 5 with fail
      refine wp_region_list ?_
      refine wpList_load_mid rfl 27 (.tmp 1) rfl (w.heap.size) (0) rfl [.slice a0 (bk0).ns.length c0, .slice b0 (bk0).ts.length d0, .slice e0 (bk0).bs.length f0, .int .u64 ((bk0).fe : Nat)] _ (HP3.out.range 0) Tryz.underlying27 rfl rfl ?_
      refine wpList_load_mid rfl 36 (.tmp 3) rfl (wr.heap.size) (0) rfl [.int .u8 1, .string ⟨#[110]⟩, .int .i64 5, .int .i64 0, .int .i64 0, .slice none 0 0, .slice none 0 0, .string ⟨#[]⟩, .int .i64 0, .int .i64 0, .int .i64 0, .slice none 0 0, .slice none 0 0, .string ⟨#[]⟩, .string ⟨#[]⟩, .int .i64 0, .string ⟨#[]⟩, .string ⟨#[]⟩, .int .u64 0] _ (HQ.out.range 0) Tryz.underlying36 rfl rfl ?_
      refine wpList_plain rfl fun K hK => ?_
      go_wp2_with fail
      refine (HDO.out w3 _ _ _ _ _ _ HK3).mono ?_
      rintro e w5 ⟨v1, v2, v3, rfl, hkp, hb⟩
      obtain ⟨⟨a1, c1, rfl⟩, ⟨b1, d1, rfl⟩, ⟨e1, f1, rfl⟩⟩ := hkp.slices
      refine hK _ _ ?_
      clear hK K
      have HP5 := Lib.hid (HP3.out.below hb)
      have HR5 := Lib.hid (HR3.out.below hb)
      have HB5 : Hid (Below w.heap.size w w5) := HB3.out.trans (hb.mono HB3.out.size)
      have HKP := Lib.hid hkp
      have HS5 : Hid (w.heap.size + 1 + 1 ≤ w5.heap.size) := Nat.le_trans HS3.out hb.size
      clear hb hkp HP3 HR3 HB3 HK3 HQ HDO
      refine wpList_plain rfl fun K hK => ?_
      go_simp
      refine hK _ _ ?_
      clear hK K
      refine wpList_plain rfl fun K hK => ?_
      go_simp
      refine hK _ _ ?_
      clear hK K
      refine wpList_plain rfl fun K hK => ?_
      go_simp
      refine hK _ _ ?_
      clear hK K
      refine wpList_plain rfl fun K hK => ?_
      go_simp
      refine hK _ _ ?_
      clear hK K
      refine wpList_plain rfl fun K hK => ?_
      go_simp
      refine hK _ _ ?_
      clear hK K
      obtain ⟨th1, th2, hbz, hx1, hx2⟩ := two_made w5 [.slice none 0 0, .slice none 0 0, .slice none 0 0, .int .u64 0] [.int .i64 0, .string ⟨#[]⟩] [.slice a1 (bk1).ns.length c1, .slice b1 (bk1).ts.length d1, .slice e1 (bk1).bs.length f1, .int .u64 ((bk1).fe : Nat)] [.int .i64 0, .string ⟨#[]⟩] 27 40 rfl rfl
      refine store_l rfl 27 (.tmp 4) (.tmp 35) rfl (w5.heap.size) [.slice a1 (bk1).ns.length c1, .slice b1 (bk1).ts.length d1, .slice e1 (bk1).bs.length f1, .int .u64 ((bk1).fe : Nat)] rfl rfl th1 rfl rfl ?_
      refine store_l rfl 40 (.tmp 5) (.tmp 36) rfl (w5.heap.size + 1) [.int .i64 0, .string ⟨#[]⟩] rfl rfl th2 rfl rfl ?_
      clear th1 th2
      generalize (((w5.alloc (.cells #[.slice none 0 0, .slice none 0 0, .slice none 0 0, .int .u64 0] 27)).alloc (.cells #[.int .i64 0, .string ⟨#[]⟩] 40)).setCells w5.heap.size 0 [.slice a1 (bk1).ns.length c1, .slice b1 (bk1).ts.length d1, .slice e1 (bk1).bs.length f1, .int .u64 ((bk1).fe : Nat)]).setCells (w5.heap.size + 1) 0 [.int .i64 0, .string ⟨#[]⟩] = w6 at *
      refine wpList_nil ?_
      have HP6 := Lib.hid (HP5.out.below hbz)
      have HR6 := Lib.hid (HR5.out.below hbz)
      have HB6 : Hid (Below w.heap.size w w6) := HB5.out.trans (hbz.mono HB5.out.size)
      have HK6 := Lib.hid (HKP.out.keep hbz)
      have HX1 := Lib.hid hx1
      have HS6 : Hid (w.heap.size + 1 + 1 ≤ w6.heap.size) := Nat.le_trans HS5.out hbz.size
      have t0 : w6.cell? ⟨w5.heap.size + 1, 0, none⟩ = some (.int .i64 0) := hx2.cell 0
      clear hbz hx1 hx2 HP5 HR5 HB5 HKP HS5
      go_upto_region 8 with fail
      clear t0
      refine wp_region_list ?_
      refine wpList_load_mid rfl 27 (.tmp 4) rfl (w5.heap.size) (0) rfl [.slice a1 (bk1).ns.length c1, .slice b1 (bk1).ts.length d1, .slice e1 (bk1).bs.length f1, .int .u64 ((bk1).fe : Nat)] _ (HX1.out.range 0) Tryz.underlying27 rfl rfl ?_
      have thP := HP6.out.there 4 rfl
      refine store_l rfl 27 (.tmp 1) (.tmp 40) rfl (w.heap.size) [.slice a1 (bk1).ns.length c1, .slice b1 (bk1).ts.length d1, .slice e1 (bk1).bs.length f1, .int .u64 ((bk1).fe : Nat)] rfl rfl thP rfl rfl ?_
      have HP7 : Hid (Hd.Bxn (w6.setCells w.heap.size 0 [.slice a1 (bk1).ns.length c1, .slice b1 (bk1).ts.length d1, .slice e1 (bk1).bs.length f1, .int .u64 ((bk1).fe : Nat)]) w.heap.size [.slice a1 (bk1).ns.length c1, .slice b1 (bk1).ts.length d1, .slice e1 (bk1).bs.length f1, .int .u64 ((bk1).fe : Nat)]) := HP6.out.all _ rfl
      have HR7 : Hid (Hd.Bxn (w6.setCells w.heap.size 0 [.slice a1 (bk1).ns.length c1, .slice b1 (bk1).ts.length d1, .slice e1 (bk1).bs.length f1, .int .u64 ((bk1).fe : Nat)]) (w.heap.size + 1) [.int .u8 1, .string ⟨#[110]⟩, .int .i64 5, .int .i64 0, .int .i64 0, .slice none 0 0, .slice none 0 0, .string ⟨#[]⟩, .int .i64 0, .int .i64 0, .int .i64 0, .slice none 0 0, .slice none 0 0, .string ⟨#[]⟩, .string ⟨#[]⟩, .int .i64 0, .string ⟨#[]⟩, .string ⟨#[]⟩, .int .u64 0, .int .u8 3, .string ⟨#[]⟩, .int .i64 0, .int .i64 0, .int .i64 0, .slice none 0 0, .slice none 0 0, .string ⟨#[97]⟩, .int .i64 3, .int .i64 0, .int .i64 0, .slice none 0 0, .slice none 0 0, .string ⟨#[]⟩, .string ⟨#[]⟩, .int .i64 0, .string ⟨#[]⟩, .string ⟨#[]⟩, .int .u64 0, .int .u8 3, .string ⟨#[]⟩, .int .i64 0, .int .i64 0, .int .i64 0, .slice none 0 0, .slice none 0 0, .string ⟨#[98]⟩, .int .i64 3, .int .i64 0, .int .i64 0, .slice none 0 0, .slice none 0 0, .string ⟨#[]⟩, .string ⟨#[]⟩, .int .i64 0, .string ⟨#[]⟩, .string ⟨#[]⟩, .int .u64 0, .int .u8 5, .string ⟨#[]⟩, .int .i64 0, .int .i64 0, .int .i64 0, .slice none 0 0, .slice none 0 0, .string ⟨#[]⟩, .int .i64 0, .int .i64 0, .int .i64 0, .slice none 0 0, .slice none 0 0, .string ⟨#[]⟩, .string ⟨#[]⟩, .int .i64 0, .string ⟨#[97]⟩, .string ⟨#[110]⟩, .int .u64 0]) := bxn_far HR6.out (by omega)
      have HB7 : Hid (Below w.heap.size w (w6.setCells w.heap.size 0 [.slice a1 (bk1).ns.length c1, .slice b1 (bk1).ts.length d1, .slice e1 (bk1).bs.length f1, .int .u64 ((bk1).fe : Nat)])) := below_setCells HB6.out (Nat.le_refl _) _ _
      have HS7 : Hid (w.heap.size + 1 + 1 ≤ (w6.setCells w.heap.size 0 [.slice a1 (bk1).ns.length c1, .slice b1 (bk1).ts.length d1, .slice e1 (bk1).bs.length f1, .int .u64 ((bk1).fe : Nat)]).heap.size) := Nat.le_trans HS6.out (grown_setCells w6 w.heap.size 0 [.slice a1 (bk1).ns.length c1, .slice b1 (bk1).ts.length d1, .slice e1 (bk1).bs.length f1, .int .u64 ((bk1).fe : Nat)]).size
      have HK7 := Lib.hid (HK6.out.far (P := w.heap.size) (Nat.lt_of_lt_of_le (by omega) HS3.out) 0 [.slice a1 (bk1).ns.length c1, .slice b1 (bk1).ts.length d1, .slice e1 (bk1).bs.length f1, .int .u64 ((bk1).fe : Nat)])
      clear thP HP6 HR6 HB6 HS6 HK6 HX1
      generalize w6.setCells w.heap.size 0 [.slice a1 (bk1).ns.length c1, .slice b1 (bk1).ts.length d1, .slice e1 (bk1).bs.length f1, .int .u64 ((bk1).fe : Nat)] = w7 at *
      refine wpList_nil ?_
      go_wp2
      go_roundg gg
      case measure => omega
      case rel => exact ⟨1, by omega, by simp, ⟨_, _, _, HP7.out, HK7.out.books, HR7.out, HB7.out, HS7.out⟩⟩
    · obtain ⟨⟨a0, c0, rfl⟩, ⟨b0, d0, rfl⟩, ⟨e0, f0, rfl⟩⟩ := And.intro hbk.hn.slice (And.intro hbk.ht.slice hbk.hb.slice)
      have HP : Hid (Hd.Bxn wr w.heap.size [.slice a0 (bk1).ns.length c0, .slice b0 (bk1).ts.length d0, .slice e0 (bk1).bs.length f0, .int .u64 ((bk1).fe : Nat)]) := hp
      have HBK : Hid (Books wr wr.heap.size (.slice a0 (bk1).ns.length c0) (.slice b0 (bk1).ts.length d0) (.slice e0 (bk1).bs.length f0) (bk1)) := hbk
      clear hp hbk
      have HDO : Hid (∀ z a c a' c' a'' c'', Hid (Books z z.heap.size (.slice a (bk1).ns.length c) (.slice a' (bk1).ts.length c') (.slice a'' (bk1).bs.length c'') (bk1)) → Calls Tryz.prog 11 #[.agg #[.slice a (bk1).ns.length c, .slice a' (bk1).ts.length c', .slice a'' (bk1).bs.length c'', .int .u64 ((bk1).fe : Nat)], .agg #[.int .u8 3, .string ⟨#[]⟩, .int .i64 0, .int .i64 0, .int .i64 0, .slice none 0 0, .slice none 0 0, .string ⟨#[97]⟩, .int .i64 3, .int .i64 0, .int .i64 0, .slice none 0 0, .slice none 0 0, .string ⟨#[]⟩, .string ⟨#[]⟩, .int .i64 0, .string ⟨#[]⟩, .string ⟨#[]⟩, .int .u64 0]] z fun e w' => ∃ vn' vt' vb', e = .returned (.tuple #[.agg #[vn', vt', vb', .int .u64 ((bk2).fe : Nat)], .agg #[.int .i64 0, .string ⟨#[]⟩]]) ∧ Kept z w' (bk2) vn' vt' vb' ∧ Below z.heap.size z w') := fun z a c a' c' a'' c'' hz => do_use (bk1) (bk2) _ _ _ _ _ (oA) none none none none 0 0 0 0 z hz.out (deepN0 z _ rfl rfl) fitN0 (deepT0 z _ rfl rfl) fitTA ⟨by unfold FitS; decide +kernel, by unfold FitS; decide +kernel⟩ lv1
      go_upto_region 4 with fail
      refine wp_region_list ?_
      refine wpList_plain rfl fun K hK => ?_
      go_simp
      refine hK _ _ ?_
      clear hK K
      have hrg := rng_mid HR.out 19 [.int .u8 3, .string ⟨#[]⟩, .int .i64 0, .int .i64 0, .int .i64 0, .slice none 0 0, .slice none 0 0, .string ⟨#[97]⟩, .int .i64 3, .int .i64 0, .int .i64 0, .slice none 0 0, .slice none 0 0, .string ⟨#[]⟩, .string ⟨#[]⟩, .int .i64 0, .string ⟨#[]⟩, .string ⟨#[]⟩, .int .u64 0] rfl
      refine wpList_load_mid rfl 36 (.tmp 29) rfl (w.heap.size + 1) (19) rfl [.int .u8 3, .string ⟨#[]⟩, .int .i64 0, .int .i64 0, .int .i64 0, .slice none 0 0, .slice none 0 0, .string ⟨#[97]⟩, .int .i64 3, .int .i64 0, .int .i64 0, .slice none 0 0, .slice none 0 0, .string ⟨#[]⟩, .string ⟨#[]⟩, .int .i64 0, .string ⟨#[]⟩, .string ⟨#[]⟩, .int .u64 0] _ (hrg) Tryz.underlying36 rfl rfl ?_
      clear hrg
      refine wpList_plain rfl fun K hK => ?_
      go_simp
      refine hK _ _ ?_
      clear hK K
      obtain ⟨th1, hbz, hx1⟩ := one_made wr [.int .u8 0, .string ⟨#[]⟩, .int .i64 0, .int .i64 0, .int .i64 0, .slice none 0 0, .slice none 0 0, .string ⟨#[]⟩, .int .i64 0, .int .i64 0, .int .i64 0, .slice none 0 0, .slice none 0 0, .string ⟨#[]⟩, .string ⟨#[]⟩, .int .i64 0, .string ⟨#[]⟩, .string ⟨#[]⟩, .int .u64 0] [.int .u8 3, .string ⟨#[]⟩, .int .i64 0, .int .i64 0, .int .i64 0, .slice none 0 0, .slice none 0 0, .string ⟨#[97]⟩, .int .i64 3, .int .i64 0, .int .i64 0, .slice none 0 0, .slice none 0 0, .string ⟨#[]⟩, .string ⟨#[]⟩, .int .i64 0, .string ⟨#[]⟩, .string ⟨#[]⟩, .int .u64 0] 36 rfl
      refine store_l rfl 36 (.tmp 3) (.tmp 30) rfl (wr.heap.size) [.int .u8 3, .string ⟨#[]⟩, .int .i64 0, .int .i64 0, .int .i64 0, .slice none 0 0, .slice none 0 0, .string ⟨#[97]⟩, .int .i64 3, .int .i64 0, .int .i64 0, .slice none 0 0, .slice none 0 0, .string ⟨#[]⟩, .string ⟨#[]⟩, .int .i64 0, .string ⟨#[]⟩, .string ⟨#[]⟩, .int .u64 0] rfl rfl th1 rfl rfl ?_
      clear th1
      generalize (wr.alloc (.cells #[.int .u8 0, .string ⟨#[]⟩, .int .i64 0, .int .i64 0, .int .i64 0, .slice none 0 0, .slice none 0 0, .string ⟨#[]⟩, .int .i64 0, .int .i64 0, .int .i64 0, .slice none 0 0, .slice none 0 0, .string ⟨#[]⟩, .string ⟨#[]⟩, .int .i64 0, .string ⟨#[]⟩, .string ⟨#[]⟩, .int .u64 0] 36)).setCells wr.heap.size 0 [.int .u8 3, .string ⟨#[]⟩, .int .i64 0, .int .i64 0, .int .i64 0, .slice none 0 0, .slice none 0 0, .string ⟨#[97]⟩, .int .i64 3, .int .i64 0, .int .i64 0, .slice none 0 0, .slice none 0 0, .string ⟨#[]⟩, .string ⟨#[]⟩, .int .i64 0, .string ⟨#[]⟩, .string ⟨#[]⟩, .int .u64 0] = w3 at *
      have HQ := Lib.hid hx1
      have HP3 := Lib.hid (HP.out.below hbz)
      have HR3 := Lib.hid (HR.out.below hbz)
      have HB3 : Hid (Below w.heap.size w w3) := HB.out.trans (hbz.mono HB.out.size)
      have HK3 := Lib.hid (HBK.out.on hbz)
      have HS3 : Hid (w.heap.size + 1 + 1 ≤ w3.heap.size) := Nat.le_trans HS.out hbz.size
      clear hx1 hbz HP HR HB HBK HS
      refine wpList_nil ?_
      go_upto_region 5 with fail
      refine wp_region_list ?_
      refine wpList_load_mid rfl 27 (.tmp 1) rfl (w.heap.size) (0) rfl [.slice a0 (bk1).ns.length c0, .slice b0 (bk1).ts.length d0, .slice e0 (bk1).bs.length f0, .int .u64 ((bk1).fe : Nat)] _ (HP3.out.range 0) Tryz.underlying27 rfl rfl ?_
      refine wpList_load_mid rfl 36 (.tmp 3) rfl (wr.heap.size) (0) rfl [.int .u8 3, .string ⟨#[]⟩, .int .i64 0, .int .i64 0, .int .i64 0, .slice none 0 0, .slice none 0 0, .string ⟨#[97]⟩, .int .i64 3, .int .i64 0, .int .i64 0, .slice none 0 0, .slice none 0 0, .string ⟨#[]⟩, .string ⟨#[]⟩, .int .i64 0, .string ⟨#[]⟩, .string ⟨#[]⟩, .int .u64 0] _ (HQ.out.range 0) Tryz.underlying36 rfl rfl ?_
      refine wpList_plain rfl fun K hK => ?_
      go_wp2_with fail
      refine (HDO.out w3 _ _ _ _ _ _ HK3).mono ?_
      rintro e w5 ⟨v1, v2, v3, rfl, hkp, hb⟩
      obtain ⟨⟨a1, c1, rfl⟩, ⟨b1, d1, rfl⟩, ⟨e1, f1, rfl⟩⟩ := hkp.slices
      refine hK _ _ ?_
      clear hK K
      have HP5 := Lib.hid (HP3.out.below hb)
      have HR5 := Lib.hid (HR3.out.below hb)
      have HB5 : Hid (Below w.heap.size w w5) := HB3.out.trans (hb.mono HB3.out.size)
      have HKP := Lib.hid hkp
      have HS5 : Hid (w.heap.size + 1 + 1 ≤ w5.heap.size) := Nat.le_trans HS3.out hb.size
      clear hb hkp HP3 HR3 HB3 HK3 HQ HDO
      refine wpList_plain rfl fun K hK => ?_
      go_simp
      refine hK _ _ ?_
      clear hK K
      refine wpList_plain rfl fun K hK => ?_
      go_simp
      refine hK _ _ ?_
      clear hK K
      refine wpList_plain rfl fun K hK => ?_
      go_simp
      refine hK _ _ ?_
      clear hK K
      refine wpList_plain rfl fun K hK => ?_
      go_simp
      refine hK _ _ ?_
      clear hK K
      refine wpList_plain rfl fun K hK => ?_
      go_simp
      refine hK _ _ ?_
      clear hK K
      obtain ⟨th1, th2, hbz, hx1, hx2⟩ := two_made w5 [.slice none 0 0, .slice none 0 0, .slice none 0 0, .int .u64 0] [.int .i64 0, .string ⟨#[]⟩] [.slice a1 (bk2).ns.length c1, .slice b1 (bk2).ts.length d1, .slice e1 (bk2).bs.length f1, .int .u64 ((bk2).fe : Nat)] [.int .i64 0, .string ⟨#[]⟩] 27 40 rfl rfl
      refine store_l rfl 27 (.tmp 4) (.tmp 35) rfl (w5.heap.size) [.slice a1 (bk2).ns.length c1, .slice b1 (bk2).ts.length d1, .slice e1 (bk2).bs.length f1, .int .u64 ((bk2).fe : Nat)] rfl rfl th1 rfl rfl ?_
      refine store_l rfl 40 (.tmp 5) (.tmp 36) rfl (w5.heap.size + 1) [.int .i64 0, .string ⟨#[]⟩] rfl rfl th2 rfl rfl ?_
      clear th1 th2
      generalize (((w5.alloc (.cells #[.slice none 0 0, .slice none 0 0, .slice none 0 0, .int .u64 0] 27)).alloc (.cells #[.int .i64 0, .string ⟨#[]⟩] 40)).setCells w5.heap.size 0 [.slice a1 (bk2).ns.length c1, .slice b1 (bk2).ts.length d1, .slice e1 (bk2).bs.length f1, .int .u64 ((bk2).fe : Nat)]).setCells (w5.heap.size + 1) 0 [.int .i64 0, .string ⟨#[]⟩] = w6 at *
      refine wpList_nil ?_
      have HP6 := Lib.hid (HP5.out.below hbz)
      have HR6 := Lib.hid (HR5.out.below hbz)
      have HB6 : Hid (Below w.heap.size w w6) := HB5.out.trans (hbz.mono HB5.out.size)
      have HK6 := Lib.hid (HKP.out.keep hbz)
      have HX1 := Lib.hid hx1
      have HS6 : Hid (w.heap.size + 1 + 1 ≤ w6.heap.size) := Nat.le_trans HS5.out hbz.size
      have t0 : w6.cell? ⟨w5.heap.size + 1, 0, none⟩ = some (.int .i64 0) := hx2.cell 0
      clear hbz hx1 hx2 HP5 HR5 HB5 HKP HS5
      go_upto_region 8 with fail
      clear t0
      refine wp_region_list ?_
      refine wpList_load_mid rfl 27 (.tmp 4) rfl (w5.heap.size) (0) rfl [.slice a1 (bk2).ns.length c1, .slice b1 (bk2).ts.length d1, .slice e1 (bk2).bs.length f1, .int .u64 ((bk2).fe : Nat)] _ (HX1.out.range 0) Tryz.underlying27 rfl rfl ?_
      have thP := HP6.out.there 4 rfl
      refine store_l rfl 27 (.tmp 1) (.tmp 40) rfl (w.heap.size) [.slice a1 (bk2).ns.length c1, .slice b1 (bk2).ts.length d1, .slice e1 (bk2).bs.length f1, .int .u64 ((bk2).fe : Nat)] rfl rfl thP rfl rfl ?_
      have HP7 : Hid (Hd.Bxn (w6.setCells w.heap.size 0 [.slice a1 (bk2).ns.length c1, .slice b1 (bk2).ts.length d1, .slice e1 (bk2).bs.length f1, .int .u64 ((bk2).fe : Nat)]) w.heap.size [.slice a1 (bk2).ns.length c1, .slice b1 (bk2).ts.length d1, .slice e1 (bk2).bs.length f1, .int .u64 ((bk2).fe : Nat)]) := HP6.out.all _ rfl
      have HR7 : Hid (Hd.Bxn (w6.setCells w.heap.size 0 [.slice a1 (bk2).ns.length c1, .slice b1 (bk2).ts.length d1, .slice e1 (bk2).bs.length f1, .int .u64 ((bk2).fe : Nat)]) (w.heap.size + 1) [.int .u8 1, .string ⟨#[110]⟩, .int .i64 5, .int .i64 0, .int .i64 0, .slice none 0 0, .slice none 0 0, .string ⟨#[]⟩, .int .i64 0, .int .i64 0, .int .i64 0, .slice none 0 0, .slice none 0 0, .string ⟨#[]⟩, .string ⟨#[]⟩, .int .i64 0, .string ⟨#[]⟩, .string ⟨#[]⟩, .int .u64 0, .int .u8 3, .string ⟨#[]⟩, .int .i64 0, .int .i64 0, .int .i64 0, .slice none 0 0, .slice none 0 0, .string ⟨#[97]⟩, .int .i64 3, .int .i64 0, .int .i64 0, .slice none 0 0, .slice none 0 0, .string ⟨#[]⟩, .string ⟨#[]⟩, .int .i64 0, .string ⟨#[]⟩, .string ⟨#[]⟩, .int .u64 0, .int .u8 3, .string ⟨#[]⟩, .int .i64 0, .int .i64 0, .int .i64 0, .slice none 0 0, .slice none 0 0, .string ⟨#[98]⟩, .int .i64 3, .int .i64 0, .int .i64 0, .slice none 0 0, .slice none 0 0, .string ⟨#[]⟩, .string ⟨#[]⟩, .int .i64 0, .string ⟨#[]⟩, .string ⟨#[]⟩, .int .u64 0, .int .u8 5, .string ⟨#[]⟩, .int .i64 0, .int .i64 0, .int .i64 0, .slice none 0 0, .slice none 0 0, .string ⟨#[]⟩, .int .i64 0, .int .i64 0, .int .i64 0, .slice none 0 0, .slice none 0 0, .string ⟨#[]⟩, .string ⟨#[]⟩, .int .i64 0, .string ⟨#[97]⟩, .string ⟨#[110]⟩, .int .u64 0]) := bxn_far HR6.out (by omega)
      have HB7 : Hid (Below w.heap.size w (w6.setCells w.heap.size 0 [.slice a1 (bk2).ns.length c1, .slice b1 (bk2).ts.length d1, .slice e1 (bk2).bs.length f1, .int .u64 ((bk2).fe : Nat)])) := below_setCells HB6.out (Nat.le_refl _) _ _
      have HS7 : Hid (w.heap.size + 1 + 1 ≤ (w6.setCells w.heap.size 0 [.slice a1 (bk2).ns.length c1, .slice b1 (bk2).ts.length d1, .slice e1 (bk2).bs.length f1, .int .u64 ((bk2).fe : Nat)]).heap.size) := Nat.le_trans HS6.out (grown_setCells w6 w.heap.size 0 [.slice a1 (bk2).ns.length c1, .slice b1 (bk2).ts.length d1, .slice e1 (bk2).bs.length f1, .int .u64 ((bk2).fe : Nat)]).size
      have HK7 := Lib.hid (HK6.out.far (P := w.heap.size) (Nat.lt_of_lt_of_le (by omega) HS3.out) 0 [.slice a1 (bk2).ns.length c1, .slice b1 (bk2).ts.length d1, .slice e1 (bk2).bs.length f1, .int .u64 ((bk2).fe : Nat)])
      clear thP HP6 HR6 HB6 HS6 HK6 HX1
      generalize w6.setCells w.heap.size 0 [.slice a1 (bk2).ns.length c1, .slice b1 (bk2).ts.length d1, .slice e1 (bk2).bs.length f1, .int .u64 ((bk2).fe : Nat)] = w7 at *
      refine wpList_nil ?_
      go_wp2
      go_roundg gg
      case measure => omega
      case rel => exact ⟨2, by omega, by simp, ⟨_, _, _, HP7.out, HK7.out.books, HR7.out, HB7.out, HS7.out⟩⟩
    · obtain ⟨⟨a0, c0, rfl⟩, ⟨b0, d0, rfl⟩, ⟨e0, f0, rfl⟩⟩ := And.intro hbk.hn.slice (And.intro hbk.ht.slice hbk.hb.slice)
      have HP : Hid (Hd.Bxn wr w.heap.size [.slice a0 (bk2).ns.length c0, .slice b0 (bk2).ts.length d0, .slice e0 (bk2).bs.length f0, .int .u64 ((bk2).fe : Nat)]) := hp
      have HBK : Hid (Books wr wr.heap.size (.slice a0 (bk2).ns.length c0) (.slice b0 (bk2).ts.length d0) (.slice e0 (bk2).bs.length f0) (bk2)) := hbk
      clear hp hbk
      have HDO : Hid (∀ z a c a' c' a'' c'', Hid (Books z z.heap.size (.slice a (bk2).ns.length c) (.slice a' (bk2).ts.length c') (.slice a'' (bk2).bs.length c'') (bk2)) → Calls Tryz.prog 11 #[.agg #[.slice a (bk2).ns.length c, .slice a' (bk2).ts.length c', .slice a'' (bk2).bs.length c'', .int .u64 ((bk2).fe : Nat)], .agg #[.int .u8 3, .string ⟨#[]⟩, .int .i64 0, .int .i64 0, .int .i64 0, .slice none 0 0, .slice none 0 0, .string ⟨#[98]⟩, .int .i64 3, .int .i64 0, .int .i64 0, .slice none 0 0, .slice none 0 0, .string ⟨#[]⟩, .string ⟨#[]⟩, .int .i64 0, .string ⟨#[]⟩, .string ⟨#[]⟩, .int .u64 0]] z fun e w' => ∃ vn' vt' vb', e = .returned (.tuple #[.agg #[vn', vt', vb', .int .u64 ((bk3).fe : Nat)], .agg #[.int .i64 0, .string ⟨#[]⟩]]) ∧ Kept z w' (bk3) vn' vt' vb' ∧ Below z.heap.size z w') := fun z a c a' c' a'' c'' hz => do_use (bk2) (bk3) _ _ _ _ _ (oB) none none none none 0 0 0 0 z hz.out (deepN0 z _ rfl rfl) fitN0 (deepT0 z _ rfl rfl) fitTB ⟨by unfold FitS; decide +kernel, by unfold FitS; decide +kernel⟩ lv2
      go_upto_region 4 with fail
      refine wp_region_list ?_
      refine wpList_plain rfl fun K hK => ?_
      go_simp
      refine hK _ _ ?_
      clear hK K
      have hrg := rng_mid HR.out 38 [.int .u8 3, .string ⟨#[]⟩, .int .i64 0, .int .i64 0, .int .i64 0, .slice none 0 0, .slice none 0 0, .string ⟨#[98]⟩, .int .i64 3, .int .i64 0, .int .i64 0, .slice none 0 0, .slice none 0 0, .string ⟨#[]⟩, .string ⟨#[]⟩, .int .i64 0, .string ⟨#[]⟩, .string ⟨#[]⟩, .int .u64 0] rfl
      refine wpList_load_mid rfl 36 (.tmp 29) rfl (w.heap.size + 1) (38) rfl [.int .u8 3, .string ⟨#[]⟩, .int .i64 0, .int .i64 0, .int .i64 0, .slice none 0 0, .slice none 0 0, .string ⟨#[98]⟩, .int .i64 3, .int .i64 0, .int .i64 0, .slice none 0 0, .slice none 0 0, .string ⟨#[]⟩, .string ⟨#[]⟩, .int .i64 0, .string ⟨#[]⟩, .string ⟨#[]⟩, .int .u64 0] _ (hrg) Tryz.underlying36 rfl rfl ?_
      clear hrg
      refine wpList_plain rfl fun K hK => ?_
      go_simp
      refine hK _ _ ?_
      clear hK K
      obtain ⟨th1, hbz, hx1⟩ := one_made wr [.int .u8 0, .string ⟨#[]⟩, .int .i64 0, .int .i64 0, .int .i64 0, .slice none 0 0, .slice none 0 0, .string ⟨#[]⟩, .int .i64 0, .int .i64 0, .int .i64 0, .slice none 0 0, .slice none 0 0, .string ⟨#[]⟩, .string ⟨#[]⟩, .int .i64 0, .string ⟨#[]⟩, .string ⟨#[]⟩, .int .u64 0] [.int .u8 3, .string ⟨#[]⟩, .int .i64 0, .int .i64 0, .int .i64 0, .slice none 0 0, .slice none 0 0, .string ⟨#[98]⟩, .int .i64 3, .int .i64 0, .int .i64 0, .slice none 0 0, .slice none 0 0, .string ⟨#[]⟩, .string ⟨#[]⟩, .int .i64 0, .string ⟨#[]⟩, .string ⟨#[]⟩, .int .u64 0] 36 rfl
      refine store_l rfl 36 (.tmp 3) (.tmp 30) rfl (wr.heap.size) [.int .u8 3, .string ⟨#[]⟩, .int .i64 0, .int .i64 0, .int .i64 0, .slice none 0 0, .slice none 0 0, .string ⟨#[98]⟩, .int .i64 3, .int .i64 0, .int .i64 0, .slice none 0 0, .slice none 0 0, .string ⟨#[]⟩, .string ⟨#[]⟩, .int .i64 0, .string ⟨#[]⟩, .string ⟨#[]⟩, .int .u64 0] rfl rfl th1 rfl rfl ?_
      clear th1
      generalize (wr.alloc (.cells #[.int .u8 0, .string ⟨#[]⟩, .int .i64 0, .int .i64 0, .int .i64 0, .slice none 0 0, .slice none 0 0, .string ⟨#[]⟩, .int .i64 0, .int .i64 0, .int .i64 0, .slice none 0 0, .slice none 0 0, .string ⟨#[]⟩, .string ⟨#[]⟩, .int .i64 0, .string ⟨#[]⟩, .string ⟨#[]⟩, .int .u64 0] 36)).setCells wr.heap.size 0 [.int .u8 3, .string ⟨#[]⟩, .int .i64 0, .int .i64 0, .int .i64 0, .slice none 0 0, .slice none 0 0, .string ⟨#[98]⟩, .int .i64 3, .int .i64 0, .int .i64 0, .slice none 0 0, .slice none 0 0, .string ⟨#[]⟩, .string ⟨#[]⟩, .int .i64 0, .string ⟨#[]⟩, .string ⟨#[]⟩, .int .u64 0] = w3 at *
      have HQ := Lib.hid hx1
      have HP3 := Lib.hid (HP.out.below hbz)
      have HR3 := Lib.hid (HR.out.below hbz)
      have HB3 : Hid (Below w.heap.size w w3) := HB.out.trans (hbz.mono HB.out.size)
      have HK3 := Lib.hid (HBK.out.on hbz)
      have HS3 : Hid (w.heap.size + 1 + 1 ≤ w3.heap.size) := Nat.le_trans HS.out hbz.size
      clear hx1 hbz HP HR HB HBK HS
      refine wpList_nil ?_
      go_upto_region 5 with fail
      refine wp_region_list ?_
      refine wpList_load_mid rfl 27 (.tmp 1) rfl (w.heap.size) (0) rfl [.slice a0 (bk2).ns.length c0, .slice b0 (bk2).ts.length d0, .slice e0 (bk2).bs.length f0, .int .u64 ((bk2).fe : Nat)] _ (HP3.out.range 0) Tryz.underlying27 rfl rfl ?_
      refine wpList_load_mid rfl 36 (.tmp 3) rfl (wr.heap.size) (0) rfl [.int .u8 3, .string ⟨#[]⟩, .int .i64 0, .int .i64 0, .int .i64 0, .slice none 0 0, .slice none 0 0, .string ⟨#[98]⟩, .int .i64 3, .int .i64 0, .int .i64 0, .slice none 0 0, .slice none 0 0, .string ⟨#[]⟩, .string ⟨#[]⟩, .int .i64 0, .string ⟨#[]⟩, .string ⟨#[]⟩, .int .u64 0] _ (HQ.out.range 0) Tryz.underlying36 rfl rfl ?_
      refine wpList_plain rfl fun K hK => ?_
      go_wp2_with fail
      refine (HDO.out w3 _ _ _ _ _ _ HK3).mono ?_
      rintro e w5 ⟨v1, v2, v3, rfl, hkp, hb⟩
      obtain ⟨⟨a1, c1, rfl⟩, ⟨b1, d1, rfl⟩, ⟨e1, f1, rfl⟩⟩ := hkp.slices
      refine hK _ _ ?_
      clear hK K
      have HP5 := Lib.hid (HP3.out.below hb)
      have HR5 := Lib.hid (HR3.out.below hb)
      have HB5 : Hid (Below w.heap.size w w5) := HB3.out.trans (hb.mono HB3.out.size)
      have HKP := Lib.hid hkp
      have HS5 : Hid (w.heap.size + 1 + 1 ≤ w5.heap.size) := Nat.le_trans HS3.out hb.size
      clear hb hkp HP3 HR3 HB3 HK3 HQ HDO
      refine wpList_plain rfl fun K hK => ?_
      go_simp
      refine hK _ _ ?_
      clear hK K
      refine wpList_plain rfl fun K hK => ?_
      go_simp
      refine hK _ _ ?_
      clear hK K
      refine wpList_plain rfl fun K hK => ?_
      go_simp
      refine hK _ _ ?_
      clear hK K
      refine wpList_plain rfl fun K hK => ?_
      go_simp
      refine hK _ _ ?_
      clear hK K
      refine wpList_plain rfl fun K hK => ?_
      go_simp
      refine hK _ _ ?_
      clear hK K
      obtain ⟨th1, th2, hbz, hx1, hx2⟩ := two_made w5 [.slice none 0 0, .slice none 0 0, .slice none 0 0, .int .u64 0] [.int .i64 0, .string ⟨#[]⟩] [.slice a1 (bk3).ns.length c1, .slice b1 (bk3).ts.length d1, .slice e1 (bk3).bs.length f1, .int .u64 ((bk3).fe : Nat)] [.int .i64 0, .string ⟨#[]⟩] 27 40 rfl rfl
      refine store_l rfl 27 (.tmp 4) (.tmp 35) rfl (w5.heap.size) [.slice a1 (bk3).ns.length c1, .slice b1 (bk3).ts.length d1, .slice e1 (bk3).bs.length f1, .int .u64 ((bk3).fe : Nat)] rfl rfl th1 rfl rfl ?_
      refine store_l rfl 40 (.tmp 5) (.tmp 36) rfl (w5.heap.size + 1) [.int .i64 0, .string ⟨#[]⟩] rfl rfl th2 rfl rfl ?_
      clear th1 th2
      generalize (((w5.alloc (.cells #[.slice none 0 0, .slice none 0 0, .slice none 0 0, .int .u64 0] 27)).alloc (.cells #[.int .i64 0, .string ⟨#[]⟩] 40)).setCells w5.heap.size 0 [.slice a1 (bk3).ns.length c1, .slice b1 (bk3).ts.length d1, .slice e1 (bk3).bs.length f1, .int .u64 ((bk3).fe : Nat)]).setCells (w5.heap.size + 1) 0 [.int .i64 0, .string ⟨#[]⟩] = w6 at *
      refine wpList_nil ?_
      have HP6 := Lib.hid (HP5.out.below hbz)
      have HR6 := Lib.hid (HR5.out.below hbz)
      have HB6 : Hid (Below w.heap.size w w6) := HB5.out.trans (hbz.mono HB5.out.size)
      have HK6 := Lib.hid (HKP.out.keep hbz)
      have HX1 := Lib.hid hx1
      have HS6 : Hid (w.heap.size + 1 + 1 ≤ w6.heap.size) := Nat.le_trans HS5.out hbz.size
      have t0 : w6.cell? ⟨w5.heap.size + 1, 0, none⟩ = some (.int .i64 0) := hx2.cell 0
      clear hbz hx1 hx2 HP5 HR5 HB5 HKP HS5
      go_upto_region 8 with fail
      clear t0
      refine wp_region_list ?_
      refine wpList_load_mid rfl 27 (.tmp 4) rfl (w5.heap.size) (0) rfl [.slice a1 (bk3).ns.length c1, .slice b1 (bk3).ts.length d1, .slice e1 (bk3).bs.length f1, .int .u64 ((bk3).fe : Nat)] _ (HX1.out.range 0) Tryz.underlying27 rfl rfl ?_
      have thP := HP6.out.there 4 rfl
      refine store_l rfl 27 (.tmp 1) (.tmp 40) rfl (w.heap.size) [.slice a1 (bk3).ns.length c1, .slice b1 (bk3).ts.length d1, .slice e1 (bk3).bs.length f1, .int .u64 ((bk3).fe : Nat)] rfl rfl thP rfl rfl ?_
      have HP7 : Hid (Hd.Bxn (w6.setCells w.heap.size 0 [.slice a1 (bk3).ns.length c1, .slice b1 (bk3).ts.length d1, .slice e1 (bk3).bs.length f1, .int .u64 ((bk3).fe : Nat)]) w.heap.size [.slice a1 (bk3).ns.length c1, .slice b1 (bk3).ts.length d1, .slice e1 (bk3).bs.length f1, .int .u64 ((bk3).fe : Nat)]) := HP6.out.all _ rfl
      have HR7 : Hid (Hd.Bxn (w6.setCells w.heap.size 0 [.slice a1 (bk3).ns.length c1, .slice b1 (bk3).ts.length d1, .slice e1 (bk3).bs.length f1, .int .u64 ((bk3).fe : Nat)]) (w.heap.size + 1) [.int .u8 1, .string ⟨#[110]⟩, .int .i64 5, .int .i64 0, .int .i64 0, .slice none 0 0, .slice none 0 0, .string ⟨#[]⟩, .int .i64 0, .int .i64 0, .int .i64 0, .slice none 0 0, .slice none 0 0, .string ⟨#[]⟩, .string ⟨#[]⟩, .int .i64 0, .string ⟨#[]⟩, .string ⟨#[]⟩, .int .u64 0, .int .u8 3, .string ⟨#[]⟩, .int .i64 0, .int .i64 0, .int .i64 0, .slice none 0 0, .slice none 0 0, .string ⟨#[97]⟩, .int .i64 3, .int .i64 0, .int .i64 0, .slice none 0 0, .slice none 0 0, .string ⟨#[]⟩, .string ⟨#[]⟩, .int .i64 0, .string ⟨#[]⟩, .string ⟨#[]⟩, .int .u64 0, .int .u8 3, .string ⟨#[]⟩, .int .i64 0, .int .i64 0, .int .i64 0, .slice none 0 0, .slice none 0 0, .string ⟨#[98]⟩, .int .i64 3, .int .i64 0, .int .i64 0, .slice none 0 0, .slice none 0 0, .string ⟨#[]⟩, .string ⟨#[]⟩, .int .i64 0, .string ⟨#[]⟩, .string ⟨#[]⟩, .int .u64 0, .int .u8 5, .string ⟨#[]⟩, .int .i64 0, .int .i64 0, .int .i64 0, .slice none 0 0, .slice none 0 0, .string ⟨#[]⟩, .int .i64 0, .int .i64 0, .int .i64 0, .slice none 0 0, .slice none 0 0, .string ⟨#[]⟩, .string ⟨#[]⟩, .int .i64 0, .string ⟨#[97]⟩, .string ⟨#[110]⟩, .int .u64 0]) := bxn_far HR6.out (by omega)
      have HB7 : Hid (Below w.heap.size w (w6.setCells w.heap.size 0 [.slice a1 (bk3).ns.length c1, .slice b1 (bk3).ts.length d1, .slice e1 (bk3).bs.length f1, .int .u64 ((bk3).fe : Nat)])) := below_setCells HB6.out (Nat.le_refl _) _ _
      have HS7 : Hid (w.heap.size + 1 + 1 ≤ (w6.setCells w.heap.size 0 [.slice a1 (bk3).ns.length c1, .slice b1 (bk3).ts.length d1, .slice e1 (bk3).bs.length f1, .int .u64 ((bk3).fe : Nat)]).heap.size) := Nat.le_trans HS6.out (grown_setCells w6 w.heap.size 0 [.slice a1 (bk3).ns.length c1, .slice b1 (bk3).ts.length d1, .slice e1 (bk3).bs.length f1, .int .u64 ((bk3).fe : Nat)]).size
      have HK7 := Lib.hid (HK6.out.far (P := w.heap.size) (Nat.lt_of_lt_of_le (by omega) HS3.out) 0 [.slice a1 (bk3).ns.length c1, .slice b1 (bk3).ts.length d1, .slice e1 (bk3).bs.length f1, .int .u64 ((bk3).fe : Nat)])
      clear thP HP6 HR6 HB6 HS6 HK6 HX1
      generalize w6.setCells w.heap.size 0 [.slice a1 (bk3).ns.length c1, .slice b1 (bk3).ts.length d1, .slice e1 (bk3).bs.length f1, .int .u64 ((bk3).fe : Nat)] = w7 at *
      refine wpList_nil ?_
      go_wp2
      go_roundg gg
      case measure => omega
      case rel => exact ⟨3, by omega, by simp, ⟨_, _, _, HP7.out, HK7.out.books, HR7.out, HB7.out, HS7.out⟩⟩
    · obtain ⟨⟨a0, c0, rfl⟩, ⟨b0, d0, rfl⟩, ⟨e0, f0, rfl⟩⟩ := And.intro hbk.hn.slice (And.intro hbk.ht.slice hbk.hb.slice)
      have HP : Hid (Hd.Bxn wr w.heap.size [.slice a0 (bk3).ns.length c0, .slice b0 (bk3).ts.length d0, .slice e0 (bk3).bs.length f0, .int .u64 ((bk3).fe : Nat)]) := hp
      have HBK : Hid (Books wr wr.heap.size (.slice a0 (bk3).ns.length c0) (.slice b0 (bk3).ts.length d0) (.slice e0 (bk3).bs.length f0) (bk3)) := hbk
      clear hp hbk
      have HDO : Hid (∀ z a c a' c' a'' c'', Hid (Books z z.heap.size (.slice a (bk3).ns.length c) (.slice a' (bk3).ts.length c') (.slice a'' (bk3).bs.length c'') (bk3)) → Calls Tryz.prog 11 #[.agg #[.slice a (bk3).ns.length c, .slice a' (bk3).ts.length c', .slice a'' (bk3).bs.length c'', .int .u64 ((bk3).fe : Nat)], .agg #[.int .u8 5, .string ⟨#[]⟩, .int .i64 0, .int .i64 0, .int .i64 0, .slice none 0 0, .slice none 0 0, .string ⟨#[]⟩, .int .i64 0, .int .i64 0, .int .i64 0, .slice none 0 0, .slice none 0 0, .string ⟨#[]⟩, .string ⟨#[]⟩, .int .i64 0, .string ⟨#[97]⟩, .string ⟨#[110]⟩, .int .u64 0]] z fun e w' => ∃ vn' vt' vb', e = .returned (.tuple #[.agg #[vn', vt', vb', .int .u64 ((bk4).fe : Nat)], .agg #[.int .i64 0, .string ⟨#[]⟩]]) ∧ Kept z w' (bk4) vn' vt' vb' ∧ Below z.heap.size z w') := fun z a c a' c' a'' c'' hz => do_use (bk3) (bk4) _ _ _ _ _ (oBind) none none none none 0 0 0 0 z hz.out (deepN0 z _ rfl rfl) fitN0 (deepT0 z _ rfl rfl) fitT0 ⟨by unfold FitS; decide +kernel, by unfold FitS; decide +kernel⟩ lv3
      go_upto_region 4 with fail
      refine wp_region_list ?_
      refine wpList_plain rfl fun K hK => ?_
      go_simp
      refine hK _ _ ?_
      clear hK K
      have hrg := rng_mid HR.out 57 [.int .u8 5, .string ⟨#[]⟩, .int .i64 0, .int .i64 0, .int .i64 0, .slice none 0 0, .slice none 0 0, .string ⟨#[]⟩, .int .i64 0, .int .i64 0, .int .i64 0, .slice none 0 0, .slice none 0 0, .string ⟨#[]⟩, .string ⟨#[]⟩, .int .i64 0, .string ⟨#[97]⟩, .string ⟨#[110]⟩, .int .u64 0] rfl
      refine wpList_load_mid rfl 36 (.tmp 29) rfl (w.heap.size + 1) (57) rfl [.int .u8 5, .string ⟨#[]⟩, .int .i64 0, .int .i64 0, .int .i64 0, .slice none 0 0, .slice none 0 0, .string ⟨#[]⟩, .int .i64 0, .int .i64 0, .int .i64 0, .slice none 0 0, .slice none 0 0, .string ⟨#[]⟩, .string ⟨#[]⟩, .int .i64 0, .string ⟨#[97]⟩, .string ⟨#[110]⟩, .int .u64 0] _ (hrg) Tryz.underlying36 rfl rfl ?_
      clear hrg
      refine wpList_plain rfl fun K hK => ?_
      go_simp
      refine hK _ _ ?_
      clear hK K
      obtain ⟨th1, hbz, hx1⟩ := one_made wr [.int .u8 0, .string ⟨#[]⟩, .int .i64 0, .int .i64 0, .int .i64 0, .slice none 0 0, .slice none 0 0, .string ⟨#[]⟩, .int .i64 0, .int .i64 0, .int .i64 0, .slice none 0 0, .slice none 0 0, .string ⟨#[]⟩, .string ⟨#[]⟩, .int .i64 0, .string ⟨#[]⟩, .string ⟨#[]⟩, .int .u64 0] [.int .u8 5, .string ⟨#[]⟩, .int .i64 0, .int .i64 0, .int .i64 0, .slice none 0 0, .slice none 0 0, .string ⟨#[]⟩, .int .i64 0, .int .i64 0, .int .i64 0, .slice none 0 0, .slice none 0 0, .string ⟨#[]⟩, .string ⟨#[]⟩, .int .i64 0, .string ⟨#[97]⟩, .string ⟨#[110]⟩, .int .u64 0] 36 rfl
      refine store_l rfl 36 (.tmp 3) (.tmp 30) rfl (wr.heap.size) [.int .u8 5, .string ⟨#[]⟩, .int .i64 0, .int .i64 0, .int .i64 0, .slice none 0 0, .slice none 0 0, .string ⟨#[]⟩, .int .i64 0, .int .i64 0, .int .i64 0, .slice none 0 0, .slice none 0 0, .string ⟨#[]⟩, .string ⟨#[]⟩, .int .i64 0, .string ⟨#[97]⟩, .string ⟨#[110]⟩, .int .u64 0] rfl rfl th1 rfl rfl ?_
      clear th1
      generalize (wr.alloc (.cells #[.int .u8 0, .string ⟨#[]⟩, .int .i64 0, .int .i64 0, .int .i64 0, .slice none 0 0, .slice none 0 0, .string ⟨#[]⟩, .int .i64 0, .int .i64 0, .int .i64 0, .slice none 0 0, .slice none 0 0, .string ⟨#[]⟩, .string ⟨#[]⟩, .int .i64 0, .string ⟨#[]⟩, .string ⟨#[]⟩, .int .u64 0] 36)).setCells wr.heap.size 0 [.int .u8 5, .string ⟨#[]⟩, .int .i64 0, .int .i64 0, .int .i64 0, .slice none 0 0, .slice none 0 0, .string ⟨#[]⟩, .int .i64 0, .int .i64 0, .int .i64 0, .slice none 0 0, .slice none 0 0, .string ⟨#[]⟩, .string ⟨#[]⟩, .int .i64 0, .string ⟨#[97]⟩, .string ⟨#[110]⟩, .int .u64 0] = w3 at *
      have HQ := Lib.hid hx1
      have HP3 := Lib.hid (HP.out.below hbz)
      have HR3 := Lib.hid (HR.out.below hbz)
      have HB3 : Hid (Below w.heap.size w w3) := HB.out.trans (hbz.mono HB.out.size)
      have HK3 := Lib.hid (HBK.out.on hbz)
      have HS3 : Hid (w.heap.size + 1 + 1 ≤ w3.heap.size) := Nat.le_trans HS.out hbz.size
      clear hx1 hbz HP HR HB HBK HS
      refine wpList_nil ?_
      go_upto_region 5 with fail
      refine wp_region_list ?_
      refine wpList_load_mid rfl 27 (.tmp 1) rfl (w.heap.size) (0) rfl [.slice a0 (bk3).ns.length c0, .slice b0 (bk3).ts.length d0, .slice e0 (bk3).bs.length f0, .int .u64 ((bk3).fe : Nat)] _ (HP3.out.range 0) Tryz.underlying27 rfl rfl ?_
      refine wpList_load_mid rfl 36 (.tmp 3) rfl (wr.heap.size) (0) rfl [.int .u8 5, .string ⟨#[]⟩, .int .i64 0, .int .i64 0, .int .i64 0, .slice none 0 0, .slice none 0 0, .string ⟨#[]⟩, .int .i64 0, .int .i64 0, .int .i64 0, .slice none 0 0, .slice none 0 0, .string ⟨#[]⟩, .string ⟨#[]⟩, .int .i64 0, .string ⟨#[97]⟩, .string ⟨#[110]⟩, .int .u64 0] _ (HQ.out.range 0) Tryz.underlying36 rfl rfl ?_
      refine wpList_plain rfl fun K hK => ?_
      go_wp2_with fail
      refine (HDO.out w3 _ _ _ _ _ _ HK3).mono ?_
      rintro e w5 ⟨v1, v2, v3, rfl, hkp, hb⟩
      obtain ⟨⟨a1, c1, rfl⟩, ⟨b1, d1, rfl⟩, ⟨e1, f1, rfl⟩⟩ := hkp.slices
      refine hK _ _ ?_
      clear hK K
      have HP5 := Lib.hid (HP3.out.below hb)
      have HR5 := Lib.hid (HR3.out.below hb)
      have HB5 : Hid (Below w.heap.size w w5) := HB3.out.trans (hb.mono HB3.out.size)
      have HKP := Lib.hid hkp
      have HS5 : Hid (w.heap.size + 1 + 1 ≤ w5.heap.size) := Nat.le_trans HS3.out hb.size
      clear hb hkp HP3 HR3 HB3 HK3 HQ HDO
      refine wpList_plain rfl fun K hK => ?_
      go_simp
      refine hK _ _ ?_
      clear hK K
      refine wpList_plain rfl fun K hK => ?_
      go_simp
      refine hK _ _ ?_
      clear hK K
      refine wpList_plain rfl fun K hK => ?_
      go_simp
      refine hK _ _ ?_
      clear hK K
      refine wpList_plain rfl fun K hK => ?_
      go_simp
      refine hK _ _ ?_
      clear hK K
      refine wpList_plain rfl fun K hK => ?_
      go_simp
      refine hK _ _ ?_
      clear hK K
      obtain ⟨th1, th2, hbz, hx1, hx2⟩ := two_made w5 [.slice none 0 0, .slice none 0 0, .slice none 0 0, .int .u64 0] [.int .i64 0, .string ⟨#[]⟩] [.slice a1 (bk4).ns.length c1, .slice b1 (bk4).ts.length d1, .slice e1 (bk4).bs.length f1, .int .u64 ((bk4).fe : Nat)] [.int .i64 0, .string ⟨#[]⟩] 27 40 rfl rfl
      refine store_l rfl 27 (.tmp 4) (.tmp 35) rfl (w5.heap.size) [.slice a1 (bk4).ns.length c1, .slice b1 (bk4).ts.length d1, .slice e1 (bk4).bs.length f1, .int .u64 ((bk4).fe : Nat)] rfl rfl th1 rfl rfl ?_
      refine store_l rfl 40 (.tmp 5) (.tmp 36) rfl (w5.heap.size + 1) [.int .i64 0, .string ⟨#[]⟩] rfl rfl th2 rfl rfl ?_
      clear th1 th2
      generalize (((w5.alloc (.cells #[.slice none 0 0, .slice none 0 0, .slice none 0 0, .int .u64 0] 27)).alloc (.cells #[.int .i64 0, .string ⟨#[]⟩] 40)).setCells w5.heap.size 0 [.slice a1 (bk4).ns.length c1, .slice b1 (bk4).ts.length d1, .slice e1 (bk4).bs.length f1, .int .u64 ((bk4).fe : Nat)]).setCells (w5.heap.size + 1) 0 [.int .i64 0, .string ⟨#[]⟩] = w6 at *
      refine wpList_nil ?_
      have HP6 := Lib.hid (HP5.out.below hbz)
      have HR6 := Lib.hid (HR5.out.below hbz)
      have HB6 : Hid (Below w.heap.size w w6) := HB5.out.trans (hbz.mono HB5.out.size)
      have HK6 := Lib.hid (HKP.out.keep hbz)
      have HX1 := Lib.hid hx1
      have HS6 : Hid (w.heap.size + 1 + 1 ≤ w6.heap.size) := Nat.le_trans HS5.out hbz.size
      have t0 : w6.cell? ⟨w5.heap.size + 1, 0, none⟩ = some (.int .i64 0) := hx2.cell 0
      clear hbz hx1 hx2 HP5 HR5 HB5 HKP HS5
      go_upto_region 8 with fail
      clear t0
      refine wp_region_list ?_
      refine wpList_load_mid rfl 27 (.tmp 4) rfl (w5.heap.size) (0) rfl [.slice a1 (bk4).ns.length c1, .slice b1 (bk4).ts.length d1, .slice e1 (bk4).bs.length f1, .int .u64 ((bk4).fe : Nat)] _ (HX1.out.range 0) Tryz.underlying27 rfl rfl ?_
      have thP := HP6.out.there 4 rfl
      refine store_l rfl 27 (.tmp 1) (.tmp 40) rfl (w.heap.size) [.slice a1 (bk4).ns.length c1, .slice b1 (bk4).ts.length d1, .slice e1 (bk4).bs.length f1, .int .u64 ((bk4).fe : Nat)] rfl rfl thP rfl rfl ?_
      have HP7 : Hid (Hd.Bxn (w6.setCells w.heap.size 0 [.slice a1 (bk4).ns.length c1, .slice b1 (bk4).ts.length d1, .slice e1 (bk4).bs.length f1, .int .u64 ((bk4).fe : Nat)]) w.heap.size [.slice a1 (bk4).ns.length c1, .slice b1 (bk4).ts.length d1, .slice e1 (bk4).bs.length f1, .int .u64 ((bk4).fe : Nat)]) := HP6.out.all _ rfl
      have HR7 : Hid (Hd.Bxn (w6.setCells w.heap.size 0 [.slice a1 (bk4).ns.length c1, .slice b1 (bk4).ts.length d1, .slice e1 (bk4).bs.length f1, .int .u64 ((bk4).fe : Nat)]) (w.heap.size + 1) [.int .u8 1, .string ⟨#[110]⟩, .int .i64 5, .int .i64 0, .int .i64 0, .slice none 0 0, .slice none 0 0, .string ⟨#[]⟩, .int .i64 0, .int .i64 0, .int .i64 0, .slice none 0 0, .slice none 0 0, .string ⟨#[]⟩, .string ⟨#[]⟩, .int .i64 0, .string ⟨#[]⟩, .string ⟨#[]⟩, .int .u64 0, .int .u8 3, .string ⟨#[]⟩, .int .i64 0, .int .i64 0, .int .i64 0, .slice none 0 0, .slice none 0 0, .string ⟨#[97]⟩, .int .i64 3, .int .i64 0, .int .i64 0, .slice none 0 0, .slice none 0 0, .string ⟨#[]⟩, .string ⟨#[]⟩, .int .i64 0, .string ⟨#[]⟩, .string ⟨#[]⟩, .int .u64 0, .int .u8 3, .string ⟨#[]⟩, .int .i64 0, .int .i64 0, .int .i64 0, .slice none 0 0, .slice none 0 0, .string ⟨#[98]⟩, .int .i64 3, .int .i64 0, .int .i64 0, .slice none 0 0, .slice none 0 0, .string ⟨#[]⟩, .string ⟨#[]⟩, .int .i64 0, .string ⟨#[]⟩, .string ⟨#[]⟩, .int .u64 0, .int .u8 5, .string ⟨#[]⟩, .int .i64 0, .int .i64 0, .int .i64 0, .slice none 0 0, .slice none 0 0, .string ⟨#[]⟩, .int .i64 0, .int .i64 0, .int .i64 0, .slice none 0 0, .slice none 0 0, .string ⟨#[]⟩, .string ⟨#[]⟩, .int .i64 0, .string ⟨#[97]⟩, .string ⟨#[110]⟩, .int .u64 0]) := bxn_far HR6.out (by omega)
      have HB7 : Hid (Below w.heap.size w (w6.setCells w.heap.size 0 [.slice a1 (bk4).ns.length c1, .slice b1 (bk4).ts.length d1, .slice e1 (bk4).bs.length f1, .int .u64 ((bk4).fe : Nat)])) := below_setCells HB6.out (Nat.le_refl _) _ _
      have HS7 : Hid (w.heap.size + 1 + 1 ≤ (w6.setCells w.heap.size 0 [.slice a1 (bk4).ns.length c1, .slice b1 (bk4).ts.length d1, .slice e1 (bk4).bs.length f1, .int .u64 ((bk4).fe : Nat)]).heap.size) := Nat.le_trans HS6.out (grown_setCells w6 w.heap.size 0 [.slice a1 (bk4).ns.length c1, .slice b1 (bk4).ts.length d1, .slice e1 (bk4).bs.length f1, .int .u64 ((bk4).fe : Nat)]).size
      have HK7 := Lib.hid (HK6.out.far (P := w.heap.size) (Nat.lt_of_lt_of_le (by omega) HS3.out) 0 [.slice a1 (bk4).ns.length c1, .slice b1 (bk4).ts.length d1, .slice e1 (bk4).bs.length f1, .int .u64 ((bk4).fe : Nat)])
      clear thP HP6 HR6 HB6 HS6 HK6 HX1
      generalize w6.setCells w.heap.size 0 [.slice a1 (bk4).ns.length c1, .slice b1 (bk4).ts.length d1, .slice e1 (bk4).bs.length f1, .int .u64 ((bk4).fe : Nat)] = w7 at *
      refine wpList_nil ?_
      go_wp2
      go_roundg gg
      case measure => omega
      case rel => exact ⟨4, by omega, by simp, ⟨_, _, _, HP7.out, HK7.out.books, HR7.out, HB7.out, HS7.out⟩⟩
    · omega
end Bo
end Go.Proofs.YtaipbaegbpebkaaGreat
