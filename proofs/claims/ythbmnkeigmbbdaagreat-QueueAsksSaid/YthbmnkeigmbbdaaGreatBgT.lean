/-
  Merged: BoThr, BoTask.
-/
import Derived.Test.YthbmnkeigmbbdaaGreatBgC
import Derived.Test.YthbmnkeigmbbdaaGreatRigSum
import Derived.Test.YthbmnkeigmbbdaaGreatRigSuit2
import Derived.Test.YthbmnkeigmbbdaaGreatRigRoom
/-
  WHO IS WHERE, as plain data: the tasks of a node, what they need, whether one can be there.
-/
namespace Go.Proofs.YthbmnkeigmbbdaaGreat
open Go.RowKit Go.Lib
namespace Bo
open Rw
set_option linter.unusedVariables false
def tOf (l : List Hd.Td) (k : ByteArray) : Hd.Td := (l.find? (fun t => decide (t.n = k))).getD Hd.td0
def nOf (l : List Hd.Nd) (k : ByteArray) : Hd.Nd := (l.find? (fun t => decide (t.n = k))).getD Hd.nd0
theorem tOf_at {l : List Hd.Td} (hr : Ris (l.map (·.n))) {x : Hd.Td} (hx : x ∈ l) : tOf l x.n = x := by
  induction l with
  | nil => cases hx
  | cons y r ih =>
    unfold tOf
    rw [List.find?_cons]
    rw [List.map_cons] at hr
    obtain ⟨h1, h2⟩ := List.pairwise_cons.1 hr
    rcases List.mem_cons.1 hx with rfl | hx
    · simp
    · have h3 := h1 x.n (List.mem_map_of_mem hx)
      have h4 : ¬ y.n = x.n := fun e => by rw [e, ls_irr] at h3; cases h3
      rw [decide_eq_false h4]
      exact ih h2 hx
theorem nOf_at {l : List Hd.Nd} (hr : Ris (l.map (·.n))) {x : Hd.Nd} (hx : x ∈ l) : nOf l x.n = x := by
  induction l with
  | nil => cases hx
  | cons y r ih =>
    unfold nOf
    rw [List.find?_cons]
    rw [List.map_cons] at hr
    obtain ⟨h1, h2⟩ := List.pairwise_cons.1 hr
    rcases List.mem_cons.1 hx with rfl | hx
    · simp
    · have h3 := h1 x.n (List.mem_map_of_mem hx)
      have h4 : ¬ y.n = x.n := fun e => by rw [e, ls_irr] at h3; cases h3
      rw [decide_eq_false h4]
      exact ih h2 hx
/-- The tasks of a node. -/
def thr (ts : List Hd.Td) (bs : List Rg.Pr) (v : ByteArray) : List Hd.Td := (bs.filter (fun o => decide (o.v = v))).map (fun o => tOf ts o.k)
theorem thr_app (ts : List Hd.Td) (a b : List Rg.Pr) (v : ByteArray) : thr ts (a ++ b) v = thr ts a v ++ thr ts b v := by simp [thr]
theorem thr_yes (ts : List Hd.Td) (bs : List Rg.Pr) (v : ByteArray) (k : Nat) (h : k < bs.length) (hv : bs[k].v = v) : thr ts (bs.take (k + 1)) v = thr ts (bs.take k) v ++ [tOf ts bs[k].k] := by
  rw [List.take_succ_eq_append_getElem h, thr_app]
  simp [thr, hv]
theorem thr_no (ts : List Hd.Td) (bs : List Rg.Pr) (v : ByteArray) (k : Nat) (h : k < bs.length) (hv : ¬ bs[k].v = v) : thr ts (bs.take (k + 1)) v = thr ts (bs.take k) v := by
  rw [List.take_succ_eq_append_getElem h, thr_app]
  simp [thr, hv]
theorem thr_len (ts : List Hd.Td) (bs : List Rg.Pr) (v : ByteArray) : (thr ts bs v).length ≤ bs.length := by
  unfold thr
  rw [List.length_map]
  exact List.length_filter_le _ _
def sumI (f : Hd.Td → Int) : List Hd.Td → Int
  | [] => 0
  | t :: l => f t + sumI f l
theorem sumI_app (f : Hd.Td → Int) (l m : List Hd.Td) : sumI f (l ++ m) = sumI f l + sumI f m := by
  induction l with
  | nil => simp [sumI]
  | cons t l ih => simp [sumI, ih]; omega
/-- A task as the sum takes it. -/
def tkM (x : TdM) : Rg.Tk := ⟨x.td.n, x.td.g, x.td.a, x.td.z0, x.td.z1, x.td.z2, x.td.r, x.a4, x.td.ws.length, x.c4, x.a5, x.td.bs.length, x.c5⟩
theorem sm_tkM (f : Rg.Tk → Int) (g : Hd.Td → Int) (hfg : ∀ x, f (tkM x) = g x.td) (l : List TdM) : Rg.sm f (l.map tkM) = sumI g (l.map (·.td)) := by
  induction l with
  | nil => rfl
  | cons x r ih => simp only [List.map_cons, Rg.sm, sumI, ih, hfg]
theorem flat_tkM (l : List TdM) : Rg.flatT (l.map tkM) = flat l := by
  induction l with
  | nil => rfl
  | cons x r ih => simp only [List.map_cons, Rg.flatT, flat, ih]; rfl
/-- Lists that may be asked: their names rise, each bind is of a task that there is, tasks are right. -/
structure Lists (b : Bk) : Prop where
  rn : Ris (b.ns.map (·.n))
  rt : Ris (b.ts.map (·.n))
  rb : Ris (b.bs.map (·.k))
  bt : ∀ o ∈ b.bs, hasK (b.ts.map (·.n)) o.k = true
  kt : ∀ t ∈ b.ts, okT t = true
  lb : b.bs.length ≤ 32
theorem has_mem {α : Type} {f : α → ByteArray} {l : List α} {x : ByteArray} (h : hasK (l.map f) x = true) : ∃ y ∈ l, f y = x := by
  obtain ⟨y, hy, he⟩ := List.mem_map.1 (has_iff.1 h)
  exact ⟨y, hy, he⟩
theorem okT_upto {t : Hd.Td} (h : okT t = true) : Rg.uptoB t.z0 t.z1 t.z2 1099511627776 = true := by
  have h : erT t = 0 := of_decide_eq_true h
  unfold erT Rg.taskE at h
  cases hn : Rg.nameB t.n <;> cases hu : Rg.uptoB t.z0 t.z1 t.z2 1099511627776 <;> rw [hn, hu] at h <;> simp at h ⊢
theorem Lists.tOf_mem {b : Bk} (h : Lists b) {k : ByteArray} (hk : hasK (b.ts.map (·.n)) k = true) : tOf b.ts k ∈ b.ts ∧ (tOf b.ts k).n = k := by
  obtain ⟨y, hy, rfl⟩ := has_mem hk
  rw [tOf_at h.rt hy]
  exact ⟨hy, rfl⟩
theorem Lists.thr_mem {b : Bk} (h : Lists b) {v : ByteArray} {t : Hd.Td} (ht : t ∈ thr b.ts b.bs v) : t ∈ b.ts := by
  unfold thr at ht
  obtain ⟨o, ho, rfl⟩ := List.mem_map.1 ht
  exact (h.tOf_mem (h.bt o (List.mem_filter.1 ho).1)).1
def us0 (b : Bk) (v : ByteArray) : Int := sumI (·.z0) (thr b.ts b.bs v)
def us1 (b : Bk) (v : ByteArray) : Int := sumI (·.z1) (thr b.ts b.bs v)
def us2 (b : Bk) (v : ByteArray) : Int := sumI (·.z2) (thr b.ts b.bs v)
def suB (t : Hd.Td) (n : Hd.Nd) : Bool := Rg.suitB t.ws n.ls n.ts t.bs
def roB (b : Bk) (t : Hd.Td) (n : Hd.Nd) (v : ByteArray) : Bool := Rg.roomB n.z0 n.z1 n.z2 (us0 b v) (us1 b v) (us2 b v) t.z0 t.z1 t.z2
def beB (t u : Hd.Td) : Bool := Rg.bearB t.a t.g u.a u.g
def waB (b : Bk) (t : Hd.Td) (v : ByteArray) : Bool := (thr b.ts b.bs v).any (fun u => !(beB t u))
/-- Why a task cannot be on a node. -/
def canE (b : Bk) (k v : ByteArray) : Nat :=
  if hasK (b.ts.map (·.n)) k = true ∧ hasK (b.ns.map (·.n)) v = true then
    (if hasK (b.bs.map (·.k)) k = true then 7
      else if suB (tOf b.ts k) (nOf b.ns v) = true then (if roB b (tOf b.ts k) (nOf b.ns v) v = true then (if waB b (tOf b.ts k) v = true then 13 else 0) else 13) else 13)
  else 6
end Bo
end Go.Proofs.YthbmnkeigmbbdaaGreat

/-
  A BIND's TASK: book.taskOf.
-/
namespace Go.Proofs.YthbmnkeigmbbdaaGreat
open Go.RowKit Go.Lib
namespace Bo
open Rw
set_option linter.unusedVariables false
theorem get_ty (v : Value) (l : List TdM) (want : ByteArray) (w : World) {A : Nat} (hv : Sl w A w.heap.size v l) (hr : Ris (l.map (·.td.n))) (hh : hasK (l.map (·.td.n)) want = true) :
    Calls Tryz.prog 123 #[v, .func (.func 65) #[] #[], .string want] w fun e w' => ∃ x ∈ l, x.td.n = want ∧ e = .returned (.tuple #[.agg #[.string x.td.n, .int .i64 x.td.z0, .int .i64 x.td.z1, .int .i64 x.td.z2, .slice x.a4 x.td.ws.length x.c4, .slice x.a5 x.td.bs.length x.c5, .string x.td.g, .string x.td.a, .int .i64 x.td.r], .bool true]) ∧ Below w.heap.size w w' := by
  refine (get_t v l want w hv hr).mono ?_
  rintro e w' ⟨h | h, hb⟩
  · obtain ⟨-, hl, hk, he⟩ := h
    exact ⟨_, List.getElem_mem hl, hk, he, hb⟩
  · rw [h.1] at hh; cases hh
set_option maxRecDepth 100000 in
set_option maxHeartbeats 2000000 in
/-- vn, vt, vb: a book's slices; m: its tasks as they lie. -/
theorem task_of (vn vt vb : Value) (fe : Nat) (m : List TdM) (o : Rg.Pr) (w : World) (hv : Sl w 0 w.heap.size vt m) (hr : Ris (m.map (·.td.n))) (hh : hasK (m.map (·.td.n)) o.k = true) :
    Calls Tryz.prog 134 #[.agg #[vn, vt, vb, .int .u64 (fe : Nat)], .agg #[.string o.k, .string o.v]] w fun e w' => ∃ x ∈ m, x.td.n = o.k ∧ e = .returned (.agg #[.string x.td.n, .int .i64 x.td.z0, .int .i64 x.td.z1, .int .i64 x.td.z2, .slice x.a4 x.td.ws.length x.c4, .slice x.a5 x.td.bs.length x.c5, .string x.td.g, .string x.td.a, .int .i64 x.td.r]) ∧ Below w.heap.size w w' := by
  obtain ⟨W0, hW0⟩ : ∃ W0, W0 = ((w.alloc (.cells #[vn, vt, vb, .int .u64 (fe : Nat)] 27)).alloc (.cells #[.string o.k, .string o.v] 106)).alloc (.cells #[.string ⟨#[]⟩, .int .i64 0, .int .i64 0, .int .i64 0, .slice none 0 0, .slice none 0 0, .string ⟨#[]⟩, .string ⟨#[]⟩, .int .i64 0] 42) := ⟨_, rfl⟩
  have hb0 : Below w.heap.size w W0 := by rw [hW0]; exact (((Below.refl _ w).alloc (Nat.le_refl _) _).alloc (by simp) _).alloc (by simp; omega) _
  have hz0 : W0.heap.size = w.heap.size + 1 + 1 + 1 := by rw [hW0]; simp
  have hbx : Hd.Bxn W0 (w.heap.size + 2) [.string ByteArray.empty, .int .i64 0, .int .i64 0, .int .i64 0, .slice none 0 0, .slice none 0 0, .string ByteArray.empty, .string ByteArray.empty, .int .i64 0] := by
    rw [hW0]
    have := Hd.Bxn.made ((w.alloc (.cells #[vn, vt, vb, .int .u64 (fe : Nat)] 27)).alloc (.cells #[.string o.k, .string o.v] 106)) [.string ByteArray.empty, .int .i64 0, .int .i64 0, .int .i64 0, .slice none 0 0, .slice none 0 0, .string ByteArray.empty, .string ByteArray.empty, .int .i64 0] 42
    rwa [World.size_alloc, World.size_alloc] at this
  have HX : Hid (Calls Tryz.prog 123 #[vt, .func (.func 65) #[] #[], .string o.k] W0 fun e w' => ∃ x ∈ m, x.td.n = o.k ∧ e = .returned (.tuple #[.agg #[.string x.td.n, .int .i64 x.td.z0, .int .i64 x.td.z1, .int .i64 x.td.z2, .slice x.a4 x.td.ws.length x.c4, .slice x.a5 x.td.bs.length x.c5, .string x.td.g, .string x.td.a, .int .i64 x.td.r], .bool true]) ∧ Below w.heap.size w w' ∧ Hd.Bxn w' (w.heap.size + 2) [.string ByteArray.empty, .int .i64 0, .int .i64 0, .int .i64 0, .slice none 0 0, .slice none 0 0, .string ByteArray.empty, .string ByteArray.empty, .int .i64 0]) := by
    refine (get_ty vt m o.k W0 (hv.on hb0) hr hh).mono ?_
    rintro e w' ⟨x, hx, hk, he, hb⟩
    exact ⟨x, hx, hk, he, hb0.trans (hb.mono hb0.size), hbx.below hb⟩
  have HW := Lib.hid hW0
  clear hv hr hh hb0 hbx hz0 hW0
  go_enter Tryz.func134, Tryz.ntmps134
  go_wp2_with fail
  rw [← HW.out]
  refine HX.out.mono ?_
  rintro e w1 ⟨x, hx, hk, rfl, hb, hbx⟩
  have HB := Lib.hid hb
  have HBX := Lib.hid hbx
  have HM := Lib.hid (And.intro hx hk)
  have h9 := hb.size
  clear hb hbx hx hk HX HW
  go_upto_region 2 with fail
  have HB1 : Hid (Below w.heap.size w (w1.alloc (.cells #[.string x.td.n, .int .i64 x.td.z0, .int .i64 x.td.z1, .int .i64 x.td.z2, .slice x.a4 x.td.ws.length x.c4, .slice x.a5 x.td.bs.length x.c5, .string x.td.g, .string x.td.a, .int .i64 x.td.r] 42))) := HB.out.alloc h9 _
  have HX1 : Hid (Hd.Bxn (w1.alloc (.cells #[.string x.td.n, .int .i64 x.td.z0, .int .i64 x.td.z1, .int .i64 x.td.z2, .slice x.a4 x.td.ws.length x.c4, .slice x.a5 x.td.bs.length x.c5, .string x.td.g, .string x.td.a, .int .i64 x.td.r] 42)) (w.heap.size + 2) [.string ByteArray.empty, .int .i64 0, .int .i64 0, .int .i64 0, .slice none 0 0, .slice none 0 0, .string ByteArray.empty, .string ByteArray.empty, .int .i64 0]) := HBX.out.below (al w1 _)
  have hth := HX1.out.there 9 rfl
  have hrg : (w1.alloc (.cells #[.string x.td.n, .int .i64 x.td.z0, .int .i64 x.td.z1, .int .i64 x.td.z2, .slice x.a4 x.td.ws.length x.c4, .slice x.a5 x.td.bs.length x.c5, .string x.td.g, .string x.td.a, .int .i64 x.td.r] 42)).rangeAt w1.heap.size 0 (tdE x) := (Hd.Bxn.made w1 (tdE x) 42).range 0
  refine wp_region_list ?_
  refine wpList_load_mid rfl 42 (.tmp 5) rfl w1.heap.size 0 rfl (tdE x) _ hrg Tryz.underlying42 rfl rfl ?_
  refine wpList_store_mid rfl 42 (.tmp 4) (.tmp 15) rfl (w.heap.size + 2) 0 (tdE x).toArray rfl rfl hth rfl (all_oneCell_toArray (tdE_one x)) ?_
  rw [show (tdE x).toArray.toList = tdE x from rfl]
  have HE := Lib.hid (HX1.out.all (tdE x) rfl)
  have HB2 : Hid (Below w.heap.size w ((w1.alloc (.cells #[.string x.td.n, .int .i64 x.td.z0, .int .i64 x.td.z1, .int .i64 x.td.z2, .slice x.a4 x.td.ws.length x.c4, .slice x.a5 x.td.bs.length x.c5, .string x.td.g, .string x.td.a, .int .i64 x.td.r] 42)).setCells (w.heap.size + 2) 0 (tdE x))) := below_setCells HB1.out (by omega) _ _
  clear hrg hth HX1 HB1
  generalize (w1.alloc (.cells #[.string x.td.n, .int .i64 x.td.z0, .int .i64 x.td.z1, .int .i64 x.td.z2, .slice x.a4 x.td.ws.length x.c4, .slice x.a5 x.td.bs.length x.c5, .string x.td.g, .string x.td.a, .int .i64 x.td.r] 42)).setCells (w.heap.size + 2) 0 (tdE x) = w2 at *
  refine wpList_nil ?_
  go_wp2
  exact Hd.bodyPost_bx rfl (w.heap.size + 2) (tdE x) _ rfl rfl HE.out Tryz.underlying42 rfl rfl ⟨x, HM.out.1, HM.out.2, rfl, HB2.out⟩
end Bo
end Go.Proofs.YthbmnkeigmbbdaaGreat
