/-
  Merged: BoBook, BoDoV, BoMath.
-/
import Derived.Test.YthbmnkeigmbbdaaGreatBgU
import Derived.Test.YthbmnkeigmbbdaaGreatBgE
import Derived.Test.YthbmnkeigmbbdaaGreatBgM
/-
  A BOOK OF ONE's OWN, in a box: what is kept as it is changed.
-/
namespace Go.Proofs.YthbmnkeigmbbdaaGreat
open Go.RowKit Go.Lib
namespace Bo
open Rw
set_option linter.unusedVariables false
/-- A book's lists in rows of one's own. -/
structure OwnL (w : World) (base : Nat) (vn vt vb : Value) (mn : List NdM) (mt : List TdM) (bs : List Rg.Pr) : Prop where
  hn : Own w base 45 vn mn
  ht : Own w base 42 vt mt
  hb : Own w base 106 vb bs
  dn : ∀ x ∈ mn, OwnN w base x
  dt : ∀ x ∈ mt, OwnT w base x
theorem OwnL.keep {w w' : World} {base : Nat} {vn vt vb : Value} {mn : List NdM} {mt : List TdM} {bs : List Rg.Pr} (h : OwnL w base vn vt vb mn mt bs) (hb : Below w.heap.size w w') : OwnL w' base vn vt vb mn mt bs :=
  ⟨h.hn.keep hb, h.ht.keep hb, h.hb.keep hb, fun x hx => (h.dn x hx).keep hb, fun x hx => (h.dt x hx).keep hb⟩
theorem OwnL.le {w : World} {base base' : Nat} {vn vt vb : Value} {mn : List NdM} {mt : List TdM} {bs : List Rg.Pr} (h : OwnL w base vn vt vb mn mt bs) (hb : base' ≤ base) : OwnL w base' vn vt vb mn mt bs :=
  ⟨h.hn.le hb, h.ht.le hb, h.hb.le hb, fun x hx => (h.dn x hx).le hb, fun x hx => (h.dt x hx).le hb⟩
/-- Rows from base on stay as a block below it is written. -/
theorem own_far {α : Type} [F : Flat α] {w w' : World} {base P : Nat} {e : TypeId} {v : Value} {l : List α} (h : Own w base e v l) (hg : w.grownBy w' (some P)) (hp : P < base) : Own w' base e v l :=
  h.other hg (.inr fun e => by have := (h.lt P e).1; omega)
theorem OwnL.far {w w' : World} {base P : Nat} {vn vt vb : Value} {mn : List NdM} {mt : List TdM} {bs : List Rg.Pr} (h : OwnL w base vn vt vb mn mt bs) (hg : w.grownBy w' (some P)) (hp : P < base) : OwnL w' base vn vt vb mn mt bs :=
  ⟨own_far h.hn hg hp, own_far h.ht hg hp, own_far h.hb hg hp, fun x hx => ⟨own_far (h.dn x hx).1 hg hp, own_far (h.dn x hx).2 hg hp⟩, fun x hx => ⟨own_far (h.dt x hx).1 hg hp, own_far (h.dt x hx).2 hg hp⟩⟩
/-- What a book must bear to be in memory at all. -/
structure Fine (b : Bk) : Prop where
  fn : ∀ x ∈ b.ns, FitN x
  ft : ∀ x ∈ b.ts, FitT x
  fb : ∀ x ∈ b.bs, FitB x
  ff : b.fe < 18446744073709551616
  ln : b.ns.length ≤ 4096
  lt : b.ts.length ≤ 4096
  lb : b.bs.length ≤ 4096
theorem Books.fine {w : World} {B : Nat} {vn vt vb : Value} {b : Bk} (h : Books w B vn vt vb b) (hc : chkB b = true) : Fine b := by
  obtain ⟨m, hm, -, h2, -⟩ := h.hn
  obtain ⟨n, hn, -, k2, -⟩ := h.ht
  have hl := (chk_lists hc).lb
  unfold chkB at hc
  simp only [Bool.and_eq_true] at hc
  have h1 := (rightN_spec hc.1).1
  have h3 := (rightT_spec hc.2.1).1
  refine ⟨fun x hx => ?_, fun x hx => ?_, h.hb.2.1, h.hf, by omega, by omega, by omega⟩
  · rw [hm] at hx
    obtain ⟨y, hy, rfl⟩ := List.mem_map.1 hx
    exact (h2 y hy).2
  · rw [hn] at hx
    obtain ⟨y, hy, rfl⟩ := List.mem_map.1 hx
    exact (k2 y hy).2
theorem OwnL.books {w : World} {base : Nat} {vn vt vb : Value} {mn : List NdM} {mt : List TdM} {b : Bk} (h : OwnL w base vn vt vb mn mt b.bs) (hn : b.ns = mn.map (·.nd)) (ht : b.ts = mt.map (·.td)) (hf : Fine b) : Books w w.heap.size vn vt vb b := by
  have l1 := hf.ln
  have l2 := hf.lt
  have l3 := hf.lb
  have e1 : mn.length = b.ns.length := by rw [hn, List.length_map]
  have e2 : mt.length = b.ts.length := by rw [ht, List.length_map]
  refine ⟨⟨mn, hn, (h.hn.sl (by omega)).more (Nat.le_refl _) (Nat.zero_le _), fun x hx => ?_, by omega⟩, ⟨mt, ht, (h.ht.sl (by omega)).more (Nat.le_refl _) (Nat.zero_le _), fun x hx => ?_, by omega⟩, ⟨(h.hb.sl (by omega)).more (Nat.le_refl _) (Nat.zero_le _), hf.fb, by omega⟩, hf.ff⟩
  · have hx2 := hf.fn x.nd (by rw [hn]; exact List.mem_map_of_mem hx)
    exact ⟨(h.dn x hx).deep hx2, hx2⟩
  · have hx2 := hf.ft x.td (by rw [ht]; exact List.mem_map_of_mem hx)
    exact ⟨(h.dt x hx).deep hx2, hx2⟩
/-- Only block P, and what lies from base on, has turned. -/
structure Chg (P base : Nat) (w w' : World) : Prop where
  os : w'.os = w.os
  tape : w'.tape = w.tape
  output : w'.output = w.output
  size : w.heap.size ≤ w'.heap.size
  block : ∀ k, k < base → k ≠ P → w'.heap[k]? = w.heap[k]?
theorem Chg.trans {P base : Nat} {a b c : World} (h : Chg P base a b) (k : Chg P base b c) : Chg P base a c :=
  ⟨k.os.trans h.os, k.tape.trans h.tape, k.output.trans h.output, Nat.le_trans h.size k.size, fun i hi hp => (k.block i hi hp).trans (h.block i hi hp)⟩
theorem Chg.of_below {P base : Nat} {w w' : World} (h : Below w.heap.size w w') (hb : base ≤ w.heap.size) : Chg P base w w' := ⟨h.os, h.tape, h.output, h.size, fun k hk _ => h.block k (by omega)⟩
theorem Chg.below {P base B : Nat} {w w' : World} (h : Chg P base w w') (h1 : B ≤ P) (h2 : B ≤ base) : Below B w w' := ⟨h.os, h.tape, h.output, h.size, fun k hk => h.block k (by omega) (by omega)⟩
theorem grown_setCell (w : World) (g o : Nat) (v : Value) : w.grownBy (w.setCell ⟨g, o, none⟩ v) (some g) := grown_setCells w g o [v]
/-- A book in the box P, its lists in rows of one's own from base on. -/
structure St (w : World) (P base : Nat) (b : Bk) (vn vt vb : Value) (mn : List NdM) (mt : List TdM) : Prop where
  en : b.ns = mn.map (·.nd)
  et : b.ts = mt.map (·.td)
  bx : Hd.Bxn w P (bkC vn vt vb b)
  ow : OwnL w base vn vt vb mn mt b.bs
  pb : P < base
  bw : base ≤ w.heap.size
theorem St.keep {w w' : World} {P base : Nat} {b : Bk} {vn vt vb : Value} {mn : List NdM} {mt : List TdM} (h : St w P base b vn vt vb mn mt) (hb : Below w.heap.size w w') : St w' P base b vn vt vb mn mt :=
  ⟨h.en, h.et, h.bx.below hb, h.ow.keep hb, h.pb, Nat.le_trans h.bw hb.size⟩
theorem St.books {w : World} {P base : Nat} {b : Bk} {vn vt vb : Value} {mn : List NdM} {mt : List TdM} (h : St w P base b vn vt vb mn mt) (hf : Fine b) : Books w w.heap.size vn vt vb b := h.ow.books h.en h.et hf
theorem St.kn {w : World} {P base : Nat} {b : Bk} {vn vt vb : Value} {mn : List NdM} {mt : List TdM} (h : St w P base b vn vt vb mn mt) : mn.map (·.nd.n) = b.ns.map (·.n) := by rw [h.en, List.map_map]; rfl
theorem St.kt {w : World} {P base : Nat} {b : Bk} {vn vt vb : Value} {mn : List NdM} {mt : List TdM} (h : St w P base b vn vt vb mn mt) : mt.map (·.td.n) = b.ts.map (·.n) := by rw [h.et, List.map_map]; rfl
end Bo
end Go.Proofs.YthbmnkeigmbbdaaGreat

/-
  WHAT AN ORDER DOES TO A BOOK, as plain data.
-/
namespace Go.Proofs.YthbmnkeigmbbdaaGreat
open Go.RowKit Go.Lib
namespace Bo
open Rw
set_option linter.unusedVariables false
def hsN (l : List Hd.Nd) (k : ByteArray) : Bool := hasK (l.map (·.n)) k
theorem grown_of_below {w w' : World} {own : Option Nat} (h : Below w.heap.size w w') : w.grownBy w' own := ⟨h.os, h.tape, h.output, h.size, fun k hk _ => h.block k hk⟩
end Bo
end Go.Proofs.YthbmnkeigmbbdaaGreat

/-
  A RIGHT BOOK, said of its binds alike: chkB, in the order of the binds, comes to it.
-/
namespace Go.Proofs.YthbmnkeigmbbdaaGreat
open Go.RowKit Go.Lib
namespace Bo
open Rw
set_option linter.unusedVariables false
/-! ### Sums -/
theorem sumI_sub (f : Hd.Td → Int) {l m : List Hd.Td} (h : l.Sublist m) (hp : ∀ t ∈ m, 0 ≤ f t) : sumI f l ≤ sumI f m := by
  induction h with
  | slnil => exact Int.le_refl _
  | cons x _ ih =>
    have h1 := ih (fun t ht => hp t (List.mem_cons_of_mem _ ht))
    have h2 := hp x (List.mem_cons_self ..)
    simp only [sumI]; omega
  | cons_cons x _ ih =>
    have h1 := ih (fun t ht => hp t (List.mem_cons_of_mem _ ht))
    simp only [sumI]; omega
theorem sumI_pos (f : Hd.Td → Int) {l : List Hd.Td} (hp : ∀ t ∈ l, 0 ≤ f t) : 0 ≤ sumI f l := sumI_sub f (List.nil_sublist l) hp
theorem sumI_top (f : Hd.Td → Int) (M : Int) : ∀ {l : List Hd.Td}, (∀ t ∈ l, f t ≤ M) → sumI f l ≤ M * (l.length : Nat)
  | [], _ => by simp [sumI]
  | t :: l, h => by
    have h1 := sumI_top f M (l := l) (fun u hu => h u (List.mem_cons_of_mem _ hu))
    have h2 := h t (List.mem_cons_self ..)
    simp only [sumI, List.length_cons, Int.natCast_add, Int.mul_add]
    omega
/-! ### What is on a node -/
theorem thr_sub (ts : List Hd.Td) {a b : List Rg.Pr} (h : a.Sublist b) (v : ByteArray) : (thr ts a v).Sublist (thr ts b v) := (h.filter _).map _
theorem thr_congr {ts ts' : List Hd.Td} {bs : List Rg.Pr} (h : ∀ o ∈ bs, tOf ts' o.k = tOf ts o.k) (v : ByteArray) : thr ts' bs v = thr ts bs v := by
  unfold thr
  exact List.map_congr_left (fun o ho => h o (List.mem_filter.1 ho).1)
theorem be_sym (t u : Hd.Td) : beB t u = beB u t := Rg.bear_turned _ _ _ _
theorem okN_upto {t : Hd.Nd} (h : okN t = true) : Rg.uptoB t.z0 t.z1 t.z2 1099511627776 = true := by
  have h : erN t = 0 := of_decide_eq_true h
  unfold erN Rg.nodeE at h
  cases hn : Rg.nameB t.n <;> cases hu : Rg.uptoB t.z0 t.z1 t.z2 1099511627776 <;> rw [hn, hu] at h <;> simp at h ⊢
theorem upto_of {a b c m : Int} (h0 : 0 ≤ a ∧ a ≤ m) (h1 : 0 ≤ b ∧ b ≤ m) (h2 : 0 ≤ c ∧ c ≤ m) : Rg.uptoB a b c m = true := by
  unfold Rg.uptoB Rg.inB
  simp only [Bool.and_eq_true, decide_eq_true_eq]
  exact ⟨h0, h1, h2⟩
/-- A right book: each bind's task and node are there and suit, those of a node bear each other, and have room. -/
structure RB (b : Bk) : Prop where
  ln : b.ns.length ≤ 16
  kn : ∀ x ∈ b.ns, okN x = true
  rn : Ris (b.ns.map (·.n))
  lt : b.ts.length ≤ 32
  kt : ∀ x ∈ b.ts, okT x = true
  rt : Ris (b.ts.map (·.n))
  rb : Ris (b.bs.map (·.k))
  on : ∀ o ∈ b.bs, hasK (b.ts.map (·.n)) o.k = true ∧ hasK (b.ns.map (·.n)) o.v = true ∧ suB (tOf b.ts o.k) (nOf b.ns o.v) = true
  be : b.bs.Pairwise (fun o p => o.v = p.v → beB (tOf b.ts o.k) (tOf b.ts p.k) = true)
  ro : ∀ v, hasK (b.ns.map (·.n)) v = true → us0 b v ≤ (nOf b.ns v).z0 ∧ us1 b v ≤ (nOf b.ns v).z1 ∧ us2 b v ≤ (nOf b.ns v).z2
theorem can0 {b : Bk} {k v : ByteArray} : canE b k v = 0 ↔ (hasK (b.ts.map (·.n)) k = true ∧ hasK (b.ns.map (·.n)) v = true) ∧ hasK (b.bs.map (·.k)) k = false ∧ suB (tOf b.ts k) (nOf b.ns v) = true ∧ roB b (tOf b.ts k) (nOf b.ns v) v = true ∧ waB b (tOf b.ts k) v = false := by
  unfold canE
  by_cases h1 : hasK (b.ts.map (·.n)) k = true ∧ hasK (b.ns.map (·.n)) v = true
  · rw [if_pos h1]
    cases h2 : hasK (b.bs.map (·.k)) k <;> cases h3 : suB (tOf b.ts k) (nOf b.ns v) <;> cases h4 : roB b (tOf b.ts k) (nOf b.ns v) v <;> cases h5 : waB b (tOf b.ts k) v <;> simp [h1]
  · rw [if_neg h1]
    constructor
    · intro h; cases h
    · intro h; exact absurd h.1 h1
theorem nOf_mem {b : Bk} (hr : Ris (b.ns.map (·.n))) {v : ByteArray} (h : hasK (b.ns.map (·.n)) v = true) : nOf b.ns v ∈ b.ns ∧ (nOf b.ns v).n = v := by
  obtain ⟨y, hy, rfl⟩ := has_mem h
  rw [nOf_at hr hy]
  exact ⟨hy, rfl⟩
theorem RB.lists {b : Bk} (h : RB b) : Lists b := by
  refine ⟨h.rn, h.rt, h.rb, fun o ho => (h.on o ho).1, h.kt, ?_⟩
  have h5 := nodup_le (b.bs.map (·.k)) (b.ts.map (·.n)) h.rb.nodup (fun x hx => by
    obtain ⟨o, ho, rfl⟩ := List.mem_map.1 hx
    exact has_iff.1 (h.on o ho).1)
  rw [List.length_map, List.length_map] at h5
  have := h.lt
  omega
theorem amtN {n : Hd.Nd} (h : okN n = true) : (0 ≤ n.z0 ∧ n.z0 ≤ 1099511627776) ∧ (0 ≤ n.z1 ∧ n.z1 ≤ 1099511627776) ∧ (0 ≤ n.z2 ∧ n.z2 ≤ 1099511627776) := Rg.upto_in _ _ _ _ (okN_upto h)
theorem amtT {n : Hd.Td} (h : okT n = true) : (0 ≤ n.z0 ∧ n.z0 ≤ 1099511627776) ∧ (0 ≤ n.z1 ∧ n.z1 ≤ 1099511627776) ∧ (0 ≤ n.z2 ∧ n.z2 ≤ 1099511627776) := Rg.upto_in _ _ _ _ (okT_upto h)
theorem room_parts {b : Bk} {t : Hd.Td} {n : Hd.Nd} {v : ByteArray} (h : roB b t n v = true) : us0 b v + t.z0 ≤ n.z0 ∧ us1 b v + t.z1 ≤ n.z1 ∧ us2 b v + t.z2 ≤ n.z2 := by
  unfold roB Rg.roomB Rg.fitsB at h
  simp only [Bool.and_eq_true, decide_eq_true_eq] at h
  exact ⟨h.2.2.2.1, h.2.2.2.2.1, h.2.2.2.2.2⟩
theorem room_made {b : Bk} {t : Hd.Td} {n : Hd.Nd} {v : ByteArray} (hn : okN n = true) (ht : okT t = true) (h0 : 0 ≤ us0 b v ∧ us0 b v ≤ 35184372088832) (h1 : 0 ≤ us1 b v ∧ us1 b v ≤ 35184372088832) (h2 : 0 ≤ us2 b v ∧ us2 b v ≤ 35184372088832)
    (h : us0 b v + t.z0 ≤ n.z0 ∧ us1 b v + t.z1 ≤ n.z1 ∧ us2 b v + t.z2 ≤ n.z2) : roB b t n v = true := by
  unfold roB Rg.roomB Rg.fitsB
  rw [okN_upto hn, okT_upto ht, upto_of h0 h1 h2]
  simp only [Bool.true_and, Bool.and_eq_true, decide_eq_true_eq]
  exact h
/-- What is used of a node. -/
theorem Lists.used {b : Bk} (h : Lists b) (v : ByteArray) : (0 ≤ us0 b v ∧ us0 b v ≤ 35184372088832) ∧ (0 ≤ us1 b v ∧ us1 b v ≤ 35184372088832) ∧ (0 ≤ us2 b v ∧ us2 b v ≤ 35184372088832) := by
  have ha : ∀ t ∈ thr b.ts b.bs v, _ := fun t ht => amtT (h.kt t (h.thr_mem ht))
  have hl := thr_len b.ts b.bs v
  have hb := h.lb
  have h0 := sumI_top (·.z0) 1099511627776 (fun t ht => (ha t ht).1.2)
  have h1 := sumI_top (·.z1) 1099511627776 (fun t ht => (ha t ht).2.1.2)
  have h2 := sumI_top (·.z2) 1099511627776 (fun t ht => (ha t ht).2.2.2)
  have k0 := sumI_pos (·.z0) (fun t ht => (ha t ht).1.1)
  have k1 := sumI_pos (·.z1) (fun t ht => (ha t ht).2.1.1)
  have k2 := sumI_pos (·.z2) (fun t ht => (ha t ht).2.2.1)
  unfold us0 us1 us2
  omega
theorem rb_of_chk {b : Bk} (h : chkB b = true) : RB b := by
  unfold chkB at h
  simp only [Bool.and_eq_true] at h
  obtain ⟨h1, h2, h3, h4⟩ := h
  obtain ⟨a1, a2, a3⟩ := rightN_spec h1
  obtain ⟨b1, b2, b3⟩ := rightT_spec h2
  have hc : ∀ i (hi : i < b.bs.length), _ := fun i hi => can0.1 (bindT_at h4 i hi hi)
  refine ⟨a1, a2, a3, b1, b2, b3, (ris_iff _).1 h3, ?_, ?_, ?_⟩
  · intro o ho
    obtain ⟨i, hi, rfl⟩ := List.getElem_of_mem ho
    exact ⟨(hc i hi).1.1, (hc i hi).1.2, (hc i hi).2.2.1⟩
  · rw [List.pairwise_iff_getElem]
    intro i j hi hj hij hv
    have hw := (hc j hj).2.2.2.2
    unfold waB at hw
    rw [List.any_eq_false] at hw
    have hm : tOf b.ts b.bs[i].k ∈ thr (ahd b j).ts (ahd b j).bs b.bs[j].v := by
      unfold thr
      refine List.mem_map.2 ⟨b.bs[i], List.mem_filter.2 ⟨?_, by simpa using hv⟩, rfl⟩
      exact List.mem_take_iff_getElem.2 ⟨i, by omega, rfl⟩
    have h5 := hw _ hm
    rw [be_sym]
    simpa [ahd] using h5
  · intro v hv
    obtain ⟨m1, -⟩ := nOf_mem a3 hv
    obtain ⟨z0, z1, z2⟩ := amtN (a2 _ m1)
    have key : ∀ k, k ≤ b.bs.length → us0 (ahd b k) v ≤ (nOf b.ns v).z0 ∧ us1 (ahd b k) v ≤ (nOf b.ns v).z1 ∧ us2 (ahd b k) v ≤ (nOf b.ns v).z2 := by
      intro k
      induction k with
      | zero => intro _; simp only [us0, us1, us2, ahd, List.take_zero, thr, List.filter_nil, List.map_nil, sumI]; exact ⟨z0.1, z1.1, z2.1⟩
      | succ k ih =>
        intro hk
        have h5 := ih (by omega)
        have hlt : k < b.bs.length := by omega
        by_cases he : b.bs[k].v = v
        · have h6 := room_parts (hc k hlt).2.2.2.1
          rw [he] at h6
          simp only [us0, us1, us2, ahd] at h6 ⊢
          rw [thr_yes b.ts b.bs v k hlt he, sumI_app, sumI_app, sumI_app]
          simp only [sumI]
          omega
        · simp only [us0, us1, us2, ahd] at h5 ⊢
          rw [thr_no b.ts b.bs v k hlt he]
          exact h5
    have := key b.bs.length (Nat.le_refl _)
    unfold ahd at this
    rw [List.take_length] at this
    exact this
theorem chk_of_rb {b : Bk} (h : RB b) : chkB b = true := by
  unfold chkB rightN rightT
  simp only [Bool.and_eq_true, decide_eq_true_eq, List.all_eq_true]
  refine ⟨⟨h.ln, h.kn, (ris_iff _).2 h.rn⟩, ⟨h.lt, h.kt, (ris_iff _).2 h.rt⟩, (ris_iff _).2 h.rb, ?_⟩
  unfold bindT
  rw [List.all_eq_true]
  intro i hi
  have hlt : i < b.bs.length := List.mem_range.1 hi
  unfold bindB
  rw [List.getElem?_eq_getElem hlt]
  refine decide_eq_true (can0.2 ?_)
  obtain ⟨o1, o2, o3⟩ := h.on b.bs[i] (List.getElem_mem hlt)
  have hL : Lists (ahd b i) := by
    have h0 := h.lists
    refine ⟨h0.rn, h0.rt, ?_, fun o ho => h0.bt o (List.mem_of_mem_take ho), h0.kt, ?_⟩
    · show Ris ((b.bs.take i).map (·.k)); rw [List.map_take]; exact h0.rb.sublist (List.take_sublist _ _)
    · show (b.bs.take i).length ≤ 32; rw [List.length_take]; have := h0.lb; omega
  refine ⟨⟨o1, o2⟩, ?_, o3, ?_, ?_⟩
  · rw [has_not]
    intro hm
    obtain ⟨p, hp, he⟩ := List.mem_map.1 hm
    obtain ⟨j, hj, rfl⟩ := List.mem_take_iff_getElem.1 hp
    have hr := ris_get h.rb j i (by simpa using hlt) (by omega)
    simp only [List.getElem_map] at hr
    rw [show b.bs[j].k = b.bs[i].k from he, ls_irr] at hr
    cases hr
  · obtain ⟨m1, -⟩ := nOf_mem h.rn o2
    obtain ⟨u0, u1, u2⟩ := hL.used b.bs[i].v
    refine room_made (h.kn _ m1) (h.kt _ (h.lists.tOf_mem o1).1) u0 u1 u2 ?_
    have h5 := h.ro b.bs[i].v o2
    have hs : (thr b.ts (b.bs.take (i + 1)) b.bs[i].v).Sublist (thr b.ts b.bs b.bs[i].v) := thr_sub _ (List.take_sublist _ _) _
    have ha : ∀ t ∈ thr b.ts b.bs b.bs[i].v, _ := fun t ht => amtT (h.kt t (h.lists.thr_mem ht))
    have s0 := sumI_sub (·.z0) hs (fun t ht => (ha t ht).1.1)
    have s1 := sumI_sub (·.z1) hs (fun t ht => (ha t ht).2.1.1)
    have s2 := sumI_sub (·.z2) hs (fun t ht => (ha t ht).2.2.1)
    rw [thr_yes b.ts b.bs _ i hlt rfl, sumI_app] at s0 s1 s2
    simp only [sumI] at s0 s1 s2
    simp only [us0, us1, us2, ahd] at h5 ⊢
    omega
  · unfold waB
    rw [List.any_eq_false]
    intro u hu
    unfold thr at hu
    obtain ⟨p, hp, rfl⟩ := List.mem_map.1 hu
    obtain ⟨hp1, hp2⟩ := List.mem_filter.1 hp
    obtain ⟨j, hj, rfl⟩ := List.mem_take_iff_getElem.1 hp1
    have hb := List.pairwise_iff_getElem.1 h.be j i (by omega) hlt (by omega) (by simpa using hp2)
    rw [be_sym] at hb
    show ¬ (!(beB (tOf b.ts b.bs[i].k) (tOf b.ts b.bs[j].k))) = true
    rw [hb]; decide
end Bo
end Go.Proofs.YthbmnkeigmbbdaaGreat
