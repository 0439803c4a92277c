/-
  Merged: ScoreArg, ScoreBest, ScoreOfB.
-/
import Derived.Test.YthbmnkeigmbbdaaGreatRgA
import Derived.Test.YthbmnkeigmbbdaaGreatScA
/-
  ARGUMENTS: loads, slices of loads that came in.
-/
namespace Go.Proofs.YthbmnkeigmbbdaaGreat
open Go.RowKit Go.WideShapes Go.ChangeShapes
namespace Rg
structure Ld where
  n : ByteArray
  h0 : Int
  h1 : Int
  h2 : Int
  la : Option Addr
  lc : Nat
  ta : Option Addr
  tc : Nat
  u0 : Int
  u1 : Int
  u2 : Int
  ls : List Pr
  ts : List Pr
/-- v is a slice of the loads l, in memory below block B. -/
def Loads (w : World) (B : Nat) (v : Value) (l : List Ld) : Prop :=
  ∃ a c, v = .slice a l.length c ∧ l.length ≤ 4611686018427387904 ∧ (∀ x ∈ l, x.n.size ≤ maxLen ∧ Pairs w B (.slice x.la x.ls.length x.lc) x.ls ∧ Pairs w B (.slice x.ta x.ts.length x.tc) x.ts) ∧
    (0 < l.length → ∃ b off, a = some ⟨b, off, none⟩ ∧ b < B ∧ ∀ i (h : i < l.length),
      w.cell? ⟨b, off + i * 9, none⟩ = some (.string l[i].n) ∧ w.cell? ⟨b, off + i * 9 + 1, none⟩ = some (.int .i64 l[i].h0) ∧ w.cell? ⟨b, off + i * 9 + 2, none⟩ = some (.int .i64 l[i].h1) ∧
      w.cell? ⟨b, off + i * 9 + 3, none⟩ = some (.int .i64 l[i].h2) ∧ w.cell? ⟨b, off + i * 9 + 4, none⟩ = some (.slice l[i].la l[i].ls.length l[i].lc) ∧ w.cell? ⟨b, off + i * 9 + 5, none⟩ = some (.slice l[i].ta l[i].ts.length l[i].tc) ∧
      w.cell? ⟨b, off + i * 9 + 6, none⟩ = some (.int .i64 l[i].u0) ∧ w.cell? ⟨b, off + i * 9 + 7, none⟩ = some (.int .i64 l[i].u1) ∧ w.cell? ⟨b, off + i * 9 + 8, none⟩ = some (.int .i64 l[i].u2))
theorem Loads.keep {w w' : World} {B : Nat} {v : Value} {l : List Ld} (h : Loads w B v l) (hb : Below B w w') : Loads w' B v l := by
  obtain ⟨a, c, rfl, h1, h2, h3⟩ := h
  refine ⟨a, c, rfl, h1, fun x hx => ⟨(h2 x hx).1, (h2 x hx).2.1.keep hb, (h2 x hx).2.2.keep hb⟩, fun hp => ?_⟩
  obtain ⟨b, off, rfl, hlt, hc⟩ := h3 hp
  refine ⟨b, off, rfl, hlt, fun i hi => ?_⟩
  have k : ∀ o, w'.cell? ⟨b, o, none⟩ = w.cell? ⟨b, o, none⟩ := fun o => hb.cell (by exact hlt)
  simp only [k]
  exact hc i hi
theorem Loads.more {w : World} {B B' : Nat} {v : Value} {l : List Ld} (h : Loads w B v l) (hb : B ≤ B') : Loads w B' v l := by
  obtain ⟨a, c, rfl, h1, h2, h3⟩ := h
  refine ⟨a, c, rfl, h1, fun x hx => ⟨(h2 x hx).1, (h2 x hx).2.1.more hb, (h2 x hx).2.2.more hb⟩, fun hp => ?_⟩
  obtain ⟨b, off, rfl, hlt, hc⟩ := h3 hp
  exact ⟨b, off, rfl, by omega, hc⟩
theorem Loads.over {w w' : World} {v : Value} {l : List Ld} (h : Loads w w.heap.size v l) (hb : Below w.heap.size w w') : Loads w' w'.heap.size v l := (h.keep hb).more hb.size
theorem Loads.none_ (w : World) (B : Nat) : Loads w B (.slice none 0 0) [] := ⟨none, 0, rfl, by simp, by simp, by simp⟩
theorem Loads.slice {w : World} {B : Nat} {v : Value} {l : List Ld} (h : Loads w B v l) : ∃ a c, v = .slice a l.length c := by
  obtain ⟨a, c, rfl, -⟩ := h
  exact ⟨a, c, rfl⟩
section
set_option maxRecDepth 100000
variable {H : Type} {enc : TypeId × Value → H} {w : World} {spare : Nat → Bool} {held : Bool}
end
section
set_option maxRecDepth 100000
variable {H : Type} {enc : TypeId × Value → H} {w : World} {v : Value} {d : DataW H} {ps : List MemPlace} {base : Nat}
end
end Rg
end Go.Proofs.YthbmnkeigmbbdaaGreat

/-
  THE BEST LOAD: score.Best and its closure.
-/
namespace Go.Proofs.YthbmnkeigmbbdaaGreat
open Go.RowKit
namespace Rg
theorem bsetL {B : Nat} {w w' : World} (h : Below B w w') {a : Addr} (ha : B ≤ a.block) (u : Value) : Below B w (w'.setCell a u) :=
  ⟨h.os, h.tape, h.output, by simpa using h.size, fun i hi => (Below.heap_setCell _ _ _ _ (by omega)).trans (h.block i hi)⟩
def okSc (E : Ld → Nat) (l : List Ld) (i : Nat) : Bool := match l[i]? with | some x => decide (E x = 0) | none => false
def vK (V : Ld → Int) (l : List Ld) (i : Nat) : Int := match l[i]? with | some x => V x | none => 0
def nmK (l : List Ld) (i : Nat) : ByteArray := match l[i]? with | some x => x.n | none => ⟨#[]⟩
def ltK (l : List Ld) (i j : Nat) : Bool := Op.bytesLess (nmK l i).toList (nmK l j).toList
def bestN (E : Ld → Nat) (V : Ld → Int) (l : List Ld) (k : Nat) : Option Nat := bestK (okSc E l) (vK V l) (ltK l) k
def badK (D : Ld → Nat) (l : List Ld) : Nat → Nat
  | 0 => 0
  | k + 1 => if badK D l k = 0 then (match l[k]? with | some x => D x | none => 0) else badK D l k
def bestE (te : Nat) (D E : Ld → Nat) (V : Ld → Int) (l : List Ld) : Nat := if te = 0 then (if badK D l l.length = 0 then (match bestN E V l l.length with | none => 13 | some _ => 0) else badK D l l.length) else te
def bestV (te : Nat) (D E : Ld → Nat) (V : Ld → Int) (l : List Ld) : Nat := if bestE te D E V l = 0 then (bestN E V l l.length).getD 0 else 0
def BestIs (te : Nat) (D E : Ld → Nat) (V : Ld → Int) (l : List Ld) (e : Ending) : Prop := e = .returned (.tuple #[.int .i64 (bestV te D E V l : Nat), .int .i64 (bestE te D E V l : Nat)])
theorem BestIs.task {te : Nat} {D E : Ld → Nat} {V : Ld → Int} {l : List Ld} (h : ¬ te = 0) : BestIs te D E V l (.returned (.tuple #[.int .i64 0, .int .i64 te])) := by
  have he : bestE te D E V l = te := if_neg h
  unfold BestIs bestV
  rw [he, if_neg h]; rfl
theorem BestIs.bad {D E : Ld → Nat} {V : Ld → Int} {l : List Ld} {q : Nat} (hq : badK D l l.length = q) (h : ¬ q = 0) : BestIs 0 D E V l (.returned (.tuple #[.int .i64 0, .int .i64 q])) := by
  have he : bestE 0 D E V l = q := by unfold bestE; rw [if_pos rfl, hq, if_neg h]
  unfold BestIs bestV
  rw [he, if_neg h]; rfl
theorem BestIs.none {D E : Ld → Nat} {V : Ld → Int} {l : List Ld} (hq : badK D l l.length = 0) (hb : bestN E V l l.length = .none) : BestIs 0 D E V l (.returned (.tuple #[.int .i64 0, .int .i64 13])) := by
  have he : bestE 0 D E V l = 13 := by unfold bestE; rw [if_pos rfl, hq, if_pos rfl, hb]
  unfold BestIs bestV
  rw [he, if_neg (by decide)]; rfl
theorem BestIs.some {D E : Ld → Nat} {V : Ld → Int} {l : List Ld} {b : Nat} (hq : badK D l l.length = 0) (hb : bestN E V l l.length = .some b) : BestIs 0 D E V l (.returned (.tuple #[.int .i64 b, .int .i64 0])) := by
  have he : bestE 0 D E V l = 0 := by unfold bestE; rw [if_pos rfl, hq, if_pos rfl, hb]
  unfold BestIs bestV
  rw [he, if_pos rfl, hb]; rfl
theorem bad_stay (D : Ld → Nat) (l : List Ld) (k : Nat) (h : ¬ badK D l k = 0) : ∀ j, k ≤ j → badK D l j = badK D l k := by
  intro j hj
  induction j with
  | zero => obtain rfl : k = 0 := by omega
            rfl
  | succ j ih =>
    by_cases hk : k = j + 1
    · rw [hk]
    · have := ih (by omega)
      show (if badK D l j = 0 then _ else badK D l j) = _
      rw [this, if_neg h]
theorem bad_next (D : Ld → Nat) (l : List Ld) (k : Nat) (hk : k < l.length) (h : badK D l k = 0) : badK D l (k + 1) = D l[k] := by
  show (if badK D l k = 0 then (match l[k]? with | .some x => D x | .none => 0) else badK D l k) = _
  rw [if_pos h, List.getElem?_eq_getElem hk]
theorem bad_at (D : Ld → Nat) (l : List Ld) (k : Nat) (hk : k < l.length) (h : badK D l k = 0) (hd : ¬ D l[k] = 0) : badK D l l.length = D l[k] := by
  have := bad_next D l k hk h
  rw [bad_stay D l (k + 1) (by rw [this]; exact hd) _ hk, this]
def betterB (s m : Int) (a b : ByteArray) : Bool := decide (m < s) || (decide (s = m) && Op.bytesLess a.toList b.toList)
def mostO (V : Ld → Int) (l : List Ld) : Option Nat → Int
  | .none => -1
  | .some b => vK V l b
theorem best_skip (E : Ld → Nat) (V : Ld → Int) (l : List Ld) (k : Nat) (hk : k < l.length) (h : ¬ E l[k] = 0) : bestN E V l (k + 1) = bestN E V l k := by
  unfold bestN
  show (if okSc E l k = true then _ else _) = _
  rw [if_neg]
  unfold okSc
  rw [List.getElem?_eq_getElem hk]
  simpa using h
theorem best_step (E : Ld → Nat) (V : Ld → Int) (l : List Ld) (k : Nat) (hk : k < l.length) (h : E l[k] = 0) (h0 : 0 ≤ V l[k]) :
    bestN E V l (k + 1) = if betterB (V l[k]) (mostO V l (bestN E V l k)) l[k].n (nmK l ((bestN E V l k).getD 0)) = true then .some k else bestN E V l k := by
  unfold bestN
  show (if okSc E l k = true then _ else _) = _
  have hv : vK V l k = V l[k] := by unfold vK; rw [List.getElem?_eq_getElem hk]
  have hn : nmK l k = l[k].n := by unfold nmK; rw [List.getElem?_eq_getElem hk]
  rw [if_pos (by unfold okSc; rw [List.getElem?_eq_getElem hk]; simpa using h)]
  cases hb : bestK (okSc E l) (vK V l) (ltK l) k with
  | none => unfold betterB mostO; simp; omega
  | some b =>
    have hm : mostO V l (.some b) = vK V l b := rfl
    simp only [hm, Option.getD_some, hv, betterB, ltK, hn, Bool.or_eq_true, Bool.and_eq_true, decide_eq_true_eq]
theorem best_in (E : Ld → Nat) (V : Ld → Int) (l : List Ld) (k : Nat) (b : Nat) (h : bestN E V l k = .some b) : b < k := (bestK_lt _ _ _ _ _ h).1
set_option maxHeartbeats 800000 in
theorem better_any (k b len cap pm pl pb g off : Nat) (s m : Int) (nk nb : ByteArray) (w : World) (c1 : w.cell? ⟨pm, 0, none⟩ = some (.int .i64 m)) (c2 : w.cell? ⟨pl, 0, none⟩ = some (.slice (some ⟨g, off, none⟩) len cap))
    (c3 : w.cell? ⟨pb, 0, none⟩ = some (.int .i64 b)) (hk : k < len) (hb : b < len) (n1 : w.cell? ⟨g, off + k * 9, none⟩ = some (.string nk)) (n2 : w.cell? ⟨g, off + b * 9, none⟩ = some (.string nb)) :
    Calls Tryz.prog 74 #[.int .i64 k, .int .i64 s, .pointer (some ⟨pm, 0, none⟩), .pointer (some ⟨pl, 0, none⟩), .pointer (some ⟨pb, 0, none⟩)] w fun e w' => e = .returned (.bool (betterB s m nk nb)) ∧ ∃ n, w' = w.drewN n := by
  have HE : Hid (betterB s m nk nb = (decide (m < s) || (decide (s = m) && Op.bytesLess nk.toList nb.toList))) := rfl
  by_cases h1 : m < s
  · have HN : Hid (betterB s m nk nb = true) := by show _ = _; rw [HE.out, decide_eq_true h1]; rfl
    clear HE
    go_enter Tryz.func74, Tryz.ntmps74
    go_wp2
    go_quiet (fail)
    go_wp2
    go_ret
    exact ⟨by rw [HN.out]; rfl, _, rfl⟩
  · by_cases h2 : s = m
    · subst h2
      clear h1
      have HN : Hid (betterB s s nk nb = Op.bytesLess nk.toList nb.toList) := by show _ = _; rw [HE.out, decide_eq_false (by omega)]; simp
      have h1' : decide (s < s) = false := by simp
      clear HE
      go_enter Tryz.func74, Tryz.ntmps74
      go_wp2
      go_quiet (fail)
      go_wp2
      go_ret
      exact ⟨by rw [HN.out]; rfl, _, rfl⟩
    · have HN : Hid (betterB s m nk nb = false) := by show _ = _; rw [HE.out, decide_eq_false h1, decide_eq_false h2]; rfl
      have h1' : decide (m < s) = false := by simpa using h1
      have h2' : (s == m) = false := by simpa using h2
      clear HE
      go_enter Tryz.func74, Tryz.ntmps74
      go_wp2
      go_quiet (fail)
      go_wp2
      go_ret
      exact ⟨by rw [HN.out]; rfl, _, rfl⟩
set_option maxRecDepth 100000 in
set_option maxHeartbeats 8000000 in
theorem best_any (yn yg ya : ByteArray) (y0 y1 y2 yr : Int) (ywa yba : Option Addr) (ywn ywc ybn ybc : Nat) (te : Nat) (D E : Ld → Nat) (V : Ld → Int) (l : List Ld) (v : Value) (w : World) (hl : Loads w w.heap.size v l)
    (k1 : ∀ z, Below w.heap.size w z → Calls Tryz.prog 64 #[.agg #[.string yn, .int .i64 y0, .int .i64 y1, .int .i64 y2, .slice ywa ywn ywc, .slice yba ybn ybc, .string yg, .string ya, .int .i64 yr]] z fun e w' => e = .returned (.int .i64 te) ∧ Below z.heap.size z w')
    (ks : te = 0 → ∀ x ∈ l, ∀ z, Below w.heap.size w z → Calls Tryz.prog 75 #[.agg #[.string yn, .int .i64 y0, .int .i64 y1, .int .i64 y2, .slice ywa ywn ywc, .slice yba ybn ybc, .string yg, .string ya, .int .i64 yr], .agg #[.string x.n, .int .i64 x.h0, .int .i64 x.h1, .int .i64 x.h2, .slice x.la x.ls.length x.lc, .slice x.ta x.ts.length x.tc, .int .i64 x.u0, .int .i64 x.u1, .int .i64 x.u2]] z fun e w' => ScoreIs (E x) (V x) e ∧ Below z.heap.size z w')
    (hV : te = 0 → ∀ x ∈ l, E x = 0 → 0 ≤ V x) (hD : te = 0 → ∀ x ∈ l, (E x = 0 ∨ E x = 13) ∧ D x = 0 ∨ E x = D x ∧ ¬ E x = 0 ∧ ¬ E x = 13) :
    Calls Tryz.prog 32 #[.agg #[.string yn, .int .i64 y0, .int .i64 y1, .int .i64 y2, .slice ywa ywn ywc, .slice yba ybn ybc, .string yg, .string ya, .int .i64 yr], v] w fun e w' => BestIs te D E V l e ∧ Below w.heap.size w w' := by
  obtain ⟨a, c, rfl, hlen, -, hc⟩ := hl
  have K1 := Lib.hid k1
  have KS := Lib.hid ks
  have HV := Lib.hid hV
  have HD := Lib.hid hD
  have HC := Lib.hid hc
  have HB0 := Lib.hid (Below.refl ((w.alloc (.cells #[.string yn, .int .i64 y0, .int .i64 y1, .int .i64 y2, .slice ywa ywn ywc, .slice yba ybn ybc, .string yg, .string ya, .int .i64 yr] 42)).alloc (.cells #[.slice a l.length c] 31)).heap.size ((w.alloc (.cells #[.string yn, .int .i64 y0, .int .i64 y1, .int .i64 y2, .slice ywa ywn ywc, .slice yba ybn ybc, .string yg, .string ya, .int .i64 yr] 42)).alloc (.cells #[.slice a l.length c] 31)))
  clear k1 ks hV hD hc
  go_enter Tryz.func32, Tryz.ntmps32
  go_wp2
  go_step3
  go_wp2_with fail
  refine (K1.out _ (boxedL HB0.out).2.2).mono ?_
  rintro e w1 ⟨rfl, hb⟩
  have HB1 := Lib.hid (HB0.out.trans (hb.mono HB0.out.size))
  have hz1 := hb.size
  simp at hz1
  clear hb
  obtain ⟨c0, c1, -⟩ := boxedL HB1.out
  by_cases ht : te = 0
  · subst ht
    have HW1 := Lib.hid (boxedL HB1.out).2.2
    have KS2 := Lib.hid (KS.out rfl)
    have HV2 := Lib.hid (HV.out rfl)
    have HD2 := Lib.hid (HD.out rfl)
    clear K1 HB0 HB1 KS HV HD
    have hmf : ∀ (fn : Fn) (first cap : Array Value) (w : World), (Instr.makeFunc fn first cap).run Tryz.prog w = .ok (.func fn first cap) w := fun _ _ _ _ => rfl
    have HC1 : Hid (∀ i (h : i < l.length), ∃ b off, a = some ⟨b, off, none⟩ ∧ b < w.heap.size ∧ ∀ i (h : i < l.length), w1.cell? ⟨b, off + i * 9, none⟩ = some (.string l[i].n) ∧ w1.cell? ⟨b, off + i * 9 + 1, none⟩ = some (.int .i64 l[i].h0) ∧ w1.cell? ⟨b, off + i * 9 + 2, none⟩ = some (.int .i64 l[i].h1) ∧
      w1.cell? ⟨b, off + i * 9 + 3, none⟩ = some (.int .i64 l[i].h2) ∧ w1.cell? ⟨b, off + i * 9 + 4, none⟩ = some (.slice l[i].la l[i].ls.length l[i].lc) ∧ w1.cell? ⟨b, off + i * 9 + 5, none⟩ = some (.slice l[i].ta l[i].ts.length l[i].tc) ∧
      w1.cell? ⟨b, off + i * 9 + 6, none⟩ = some (.int .i64 l[i].u0) ∧ w1.cell? ⟨b, off + i * 9 + 7, none⟩ = some (.int .i64 l[i].u1) ∧ w1.cell? ⟨b, off + i * 9 + 8, none⟩ = some (.int .i64 l[i].u2)) := by
      intro i hi
      obtain ⟨b, off, e, hlt, hcc⟩ := HC.out (by omega)
      refine ⟨b, off, e, hlt, fun i hi => ?_⟩
      have k : ∀ o, w1.cell? ⟨b, o, none⟩ = w.cell? ⟨b, o, none⟩ := fun o => HW1.out.cell (by exact hlt)
      simp only [k]
      exact hcc i hi
    have C0 := Lib.hid c0
    have C1 := Lib.hid c1
    have hz0 : w.heap.size + 2 ≤ w1.heap.size := by omega
    have q1 : ∀ o o', ((w1.alloc o).alloc o').cell? ⟨w.heap.size + 1, 0, none⟩ = some (.slice a l.length c) := fun o o' => by
      rw [World.cell?_alloc_lt _ _ _ (by simp; omega), World.cell?_alloc_lt _ _ _ (by show w.heap.size + 1 < _; omega)]; exact C1.out 0
    clear HC c0 c1 hz1
    go_wp2
    go_step3
    go_wp2
    clear q1
    go_loopg [22] l.length (fun g i wx => ∃ (k : Nat) (o : Option Nat), k + g = l.length ∧ i = .int .i64 k ∧ Aside (badK D l k = 0) ∧ Aside (bestN E V l k = o) ∧ wx.cell? ⟨w1.heap.size, 0, none⟩ = some (.int .i64 ((o.getD 0 : Nat) : Int)) ∧ wx.cell? ⟨w1.heap.size + 1, 0, none⟩ = some (.int .i64 (mostO V l o)) ∧
      wx.frozen? ⟨w1.heap.size, 0, none⟩ = false ∧ wx.frozen? ⟨w1.heap.size + 1, 0, none⟩ = false ∧ w1.heap.size + 2 ≤ wx.heap.size ∧ Below w1.heap.size w1 wx)
    case atStart => exact ⟨0, .none, by omega, rfl, rfl, rfl, by simp [go_sem], by simp [go_sem, mostO], by simp [go_sem], by simp [go_sem], by simp, two w1 _ _⟩
    case round =>
      obtain ⟨k, o, hkg, rfl, HA, HO, cb, cm, fb, fm, hzr, hbx⟩ := hrel
      have HX := Lib.hid hbx
      have HWX := Lib.hid (HW1.out.trans (hbx.mono (by omega)))
      cases gk with
      | zero =>
        obtain rfl : k = l.length := by omega
        clear hkg hbx
        have HA' : Hid (badK D l l.length = 0) := HA
        have HO' : Hid (bestN E V l l.length = o) := HO
        cases o with
        | none =>
          have cm' : wr.cell? ⟨w1.heap.size + 1, 0, none⟩ = some (.int .i64 (-1)) := cm
          clear cm cb
          go_wp2
          rw [Exit.noGoto_ret]
          go_ret2
          exact ⟨BestIs.none HA'.out HO'.out, HWX.out⟩
        | some b =>
          have hbl := best_in E V l _ _ HO'.out
          have cb' : wr.cell? ⟨w1.heap.size, 0, none⟩ = some (.int .i64 b) := cb
          have hm : 0 ≤ mostO V l (some b) := by
            show 0 ≤ vK V l b
            unfold vK
            rw [List.getElem?_eq_getElem hbl]
            have := (bestK_lt _ _ _ _ _ HO'.out).2
            unfold okSc at this
            rw [List.getElem?_eq_getElem hbl] at this
            exact HV2.out _ (List.getElem_mem hbl) (by simpa using this)
          have hm' : decide (mostO V l (some b) < 0) = false := by simpa using hm
          clear cb
          generalize mostO V l (some b) = mm at *
          go_wp2
          rw [Exit.noGoto_ret]
          go_ret2
          exact ⟨BestIs.some HA'.out HO'.out, HWX.out⟩
      | succ g =>
        have hlk : k < l.length := by omega
        have HG := Lib.hid hkg
        have hbl : o.getD 0 < l.length := by
          cases o with
          | none => show 0 < _; omega
          | some b => have := best_in E V l _ _ HO.out; show b < _; omega
        obtain ⟨b, off, rfl, hblt, hcc⟩ := HC1.out k hlk
        obtain ⟨d0, d1, d2, d3, d4, d5, d6, d7, d8⟩ := hcc k hlk
        obtain ⟨f0, -⟩ := hcc (o.getD 0) hbl
        have kx : ∀ o, wr.cell? ⟨b, o, none⟩ = w1.cell? ⟨b, o, none⟩ := fun o => hbx.cell (by show b < _; omega)
        have ky : ∀ o, wr.cell? ⟨w.heap.size, o, none⟩ = w1.cell? ⟨w.heap.size, o, none⟩ := fun o => hbx.cell (by show w.heap.size < _; omega)
        have kz : ∀ o, wr.cell? ⟨w.heap.size + 1, o, none⟩ = w1.cell? ⟨w.heap.size + 1, o, none⟩ := fun o => hbx.cell (by show w.heap.size + 1 < _; omega)
        rw [← kx] at d0 d1 d2 d3 d4 d5 d6 d7 d8 f0
        have t0 : ∀ i, wr.cell? ⟨w.heap.size, i, none⟩ = #[.string yn, .int .i64 y0, .int .i64 y1, .int .i64 y2, .slice ywa ywn ywc, .slice yba ybn ybc, .string yg, .string ya, .int .i64 yr][i]? := fun i => (ky i).trans (C0.out i)
        have t1 : ∀ i, wr.cell? ⟨w.heap.size + 1, i, none⟩ = #[.slice (some ⟨b, off, none⟩) l.length c][i]? := fun i => (kz i).trans (C1.out i)
        have hnm : l[o.getD 0].n = nmK l (o.getD 0) := by unfold nmK; rw [List.getElem?_eq_getElem hbl]
        rw [hnm] at f0
        have HSC := Lib.hid (KS2.out l[k] (List.getElem_mem hlk))
        have HVk := Lib.hid (HV2.out l[k] (List.getElem_mem hlk))
        have HDk := Lib.hid (HD2.out l[k] (List.getElem_mem hlk))
        have HSK := Lib.hid (best_skip E V l k hlk)
        have HST := Lib.hid (best_step E V l k hlk)
        have HBN := Lib.hid (bad_next D l k hlk HA.out)
        have HBA := Lib.hid (bad_at D l k hlk HA.out)
        have HVK : Hid (vK V l k = V l[k]) := by show _ = _; unfold vK; rw [List.getElem?_eq_getElem hlk]
        rw [show bestN E V l k = o from HO.out] at HSK HST
        clear hkg hbx hcc kx ky kz hnm
        generalize l[k] = x at *
        generalize E x = er at *
        generalize V x = vv at *
        generalize D x = dx at *
        generalize nmK l (o.getD 0) = nb at *
        generalize hob : o.getD 0 = ob at *
        have HOB := Lib.hid hob
        clear hob
        generalize hmo : mostO V l o = mo at *
        have HMO := Lib.hid hmo
        clear hmo
        rcases x with ⟨xn, x0, x1, x2, xla, xlc, xta, xtc, xu0, xu1, xu2, ls, ts⟩
        generalize ls.length = xln at *
        generalize ts.length = xtn at *
        simp only at d0 d1 d2 d3 d4 d5 d6 d7 d8 HSC HST
        have p0 : ∀ o i, (wr.alloc o).cell? ⟨w.heap.size, i, none⟩ = #[.string yn, .int .i64 y0, .int .i64 y1, .int .i64 y2, .slice ywa ywn ywc, .slice yba ybn ybc, .string yg, .string ya, .int .i64 yr][i]? := fun o i => by rw [World.cell?_alloc_lt _ _ _ (by show w.heap.size < _; omega)]; exact t0 i
        have HT0 := Lib.hid t0
        have HT1 := Lib.hid t1
        have HWA : Hid (∀ o, Below w.heap.size w (wr.alloc o)) := fun o => HWX.out.alloc (by omega) o
        clear t0 t1
        go_wp2_with fail
        refine (HSC.out _ (HWA.out _)).mono ?_
        rintro e w3 ⟨hsi, hb⟩
        have hz3 := hb.size
        simp at hz3
        have HBR : Below wr.heap.size wr w3 := (one_ wr _).trans (hb.mono (by simp))
        have kw : ∀ b o, b < wr.heap.size → w3.cell? ⟨b, o, none⟩ = wr.cell? ⟨b, o, none⟩ := fun b o h => HBR.cell (by exact h)
        have kf : ∀ b o, b < wr.heap.size → w3.frozen? ⟨b, o, none⟩ = wr.frozen? ⟨b, o, none⟩ := fun b o h => HBR.frozen (p := ⟨b, o, none⟩) (by exact h)
        have a1 : w3.cell? ⟨w1.heap.size, 0, none⟩ = some (.int .i64 (ob : Nat)) := by rw [kw _ _ (by omega)]; exact cb
        have a2 : w3.cell? ⟨w1.heap.size + 1, 0, none⟩ = some (.int .i64 mo) := by rw [kw _ _ (by omega)]; exact cm
        have a3 : w3.frozen? ⟨w1.heap.size, 0, none⟩ = false := by rw [kf _ _ (by omega)]; exact fb
        have a4 : w3.frozen? ⟨w1.heap.size + 1, 0, none⟩ = false := by rw [kf _ _ (by omega)]; exact fm
        have a5 : w3.cell? ⟨w.heap.size + 1, 0, none⟩ = some (.slice (some ⟨b, off, none⟩) l.length c) := by rw [kw _ _ (by omega)]; exact HT1.out 0
        have a6 : w3.cell? ⟨b, off + k * 9, none⟩ = some (.string xn) := by rw [kw _ _ (by omega)]; exact d0
        have a7 : w3.cell? ⟨b, off + ob * 9, none⟩ = some (.string nb) := by rw [kw _ _ (by omega)]; exact f0
        have HB3 : Hid (Below w1.heap.size w1 w3) := (HX.out.alloc (by omega) _).trans (hb.mono (by simp; omega))
        have HW3 : Hid (Below w.heap.size w w3) := (HWA.out _).trans (hb.mono (by simp; omega))
        have KBT := Lib.hid (better_any k ob l.length c (w1.heap.size + 1) (w.heap.size + 1) w1.heap.size b off vv mo xn nb w3 a2 a5 a1 hlk hbl a6 a7)
        clear d0 d1 d2 d3 d4 d5 d6 d7 d8 f0 p0 kw kf hb cb cm fb fm a5 a6 a7 HBR
        unfold ScoreIs at hsi
        subst hsi
        generalize betterB vv mo xn nb = bt at *
        by_cases h13 : er = 13
        · subst h13
          have HQ : Hid (dx = 0) := by
            rcases HDk.out with ⟨-, h⟩ | ⟨-, -, h⟩
            · exact h
            · exact absurd rfl h
          have HR : Hid (badK D l (k + 1) = 0) := HBN.out.trans HQ.out
          have HR2 : Hid (bestN E V l (k + 1) = o) := HSK.out (by decide)
          clear HDk HBN HSK HST HBA HVk HVK KBT
          go_wp2
          go_roundg g
          case measure => omega
          case rel => exact ⟨k + 1, o, by have := HG.out; omega, by go_num, HR.out, HR2.out, by rw [HOB.out]; exact a1, by rw [HMO.out]; exact a2, a3, a4, by omega, HB3.out⟩
        · by_cases he0 : er = 0
          · subst he0
            have HQ : Hid (dx = 0) := by
              rcases HDk.out with ⟨-, h⟩ | ⟨-, h, -⟩
              · exact h
              · exact absurd rfl h
            have HR : Hid (badK D l (k + 1) = 0) := HBN.out.trans HQ.out
            have hfit : fitV 0 vv = vv := if_pos rfl
            have HV0 := Lib.hid (HVk.out rfl)
            have HST2 := Lib.hid (HST.out rfl HV0.out)
            clear HDk HBN HSK HST HBA HVk h13
            go_wp2_with fail
            refine KBT.out.mono ?_
            rintro e w4 ⟨rfl, n4, rfl⟩
            cases bt
            · have HR2 : Hid (bestN E V l (k + 1) = o) := HST2.out
              clear HST2 KBT
              go_wp2
              go_roundg g
              case measure => omega
              case rel => exact ⟨k + 1, o, by have := HG.out; omega, by go_num, HR.out, HR2.out, by rw [HOB.out]; exact a1, by rw [HMO.out]; exact a2, a3, a4, by show _ ≤ w3.heap.size; omega, bdN HB3.out _⟩
            · have HR2 : Hid (bestN E V l (k + 1) = some k) := HST2.out
              clear HST2 KBT
              go_wp2
              go_roundg g
              case measure => omega
              case rel => exact ⟨k + 1, some k, by have := HG.out; omega, by go_num, HR.out, HR2.out,
                (World.cell?_setCell_other _ _ _ _ (by intro e; injection e with e1; omega)).trans (World.cell?_setCell_same _ _ _ a1),
                (World.cell?_setCell_same _ _ _ ((World.cell?_setCell_other _ _ _ _ (by intro e; injection e with e1; omega)).trans a2)).trans (by rw [show mostO V l (some k) = vK V l k from rfl, HVK.out]),
                by simp [go_sem, a3], by simp [go_sem, a4], by simp; show _ ≤ w3.heap.size; omega, bsetL (bsetL (bdN HB3.out _) (by show w1.heap.size ≤ w1.heap.size; omega) _) (by show w1.heap.size ≤ w1.heap.size + 1; omega) _⟩
          · have hne : ¬ (er : Int) = 13 := by omega
            have hne0 : ¬ (er : Int) = 0 := by omega
            have HQ : Hid (er = dx) := by
              rcases HDk.out with ⟨h | h, -⟩ | ⟨h, -, -⟩
              · exact absurd h he0
              · exact absurd h h13
              · exact h
            have HR : Hid (badK D l l.length = er) := by
              rw [HQ.out]
              exact HBA.out (by rw [← HQ.out]; exact he0)
            have HE0 := Lib.hid he0
            clear HDk HBN HSK HST HBA HVk h13 he0
            go_wp2
            rw [Exit.noGoto_ret]
            go_ret2
            exact ⟨BestIs.bad HR.out HE0.out, HW3.out⟩
  · have ht2 : ¬ (te : Int) = 0 := by omega
    go_wp2
    rw [Exit.noGoto_ret]
    go_ret2
    exact ⟨BestIs.task ht, (boxedL HB1.out).2.2⟩
end Rg
end Go.Proofs.YthbmnkeigmbbdaaGreat

/-
  SCORES of tasks and loads that are there: both Bests put together; the examples.
-/
namespace Go.Proofs.YthbmnkeigmbbdaaGreat
open Go.RowKit
namespace Rg
def ldE (x : Ld) : Nat := loadE x.n x.h0 x.h1 x.h2 x.ls x.ts x.u0 x.u1 x.u2
def scE (te : Nat) (ws bs : List Pr) (y0 y1 y2 : Int) (x : Ld) : Nat := fitE te (ldE x) (suitB ws x.ls x.ts bs) (roomB x.h0 x.h1 x.h2 x.u0 x.u1 x.u2 y0 y1 y2)
def scV (y0 y1 y2 : Int) (x : Ld) : Int := sumS x.h0 x.h1 x.h2 x.u0 x.u1 x.u2 y0 y1 y2
theorem scV_in (te : Nat) (ws bs : List Pr) (y0 y1 y2 : Int) (x : Ld) (h : scE te ws bs y0 y1 y2 x = 0) : 0 ≤ scV y0 y1 y2 x ∧ scV y0 y1 y2 x ≤ 3000 :=
  sumS_in _ _ _ _ _ _ _ _ _ ((fitE_0 _ _ _ _).1 h).2.2.2
theorem scE_kinds (ws bs : List Pr) (y0 y1 y2 : Int) (x : Ld) : (scE 0 ws bs y0 y1 y2 x = 0 ∨ scE 0 ws bs y0 y1 y2 x = 13) ∧ ldE x = 0 ∨ scE 0 ws bs y0 y1 y2 x = ldE x ∧ ¬ scE 0 ws bs y0 y1 y2 x = 0 ∧ ¬ scE 0 ws bs y0 y1 y2 x = 13 := by
  have hlt : ldE x ≤ 5 := loadE_lt _ _ _ _ _ _ _ _ _
  unfold scE
  generalize ldE x = le at *
  generalize suitB ws x.ls x.ts bs = s
  generalize roomB x.h0 x.h1 x.h2 x.u0 x.u1 x.u2 y0 y1 y2 = r
  unfold fitE
  rw [if_pos rfl]
  by_cases hl : le = 0
  · left
    subst hl
    cases s <;> cases r <;> simp
  · right
    rw [if_neg hl]
    exact ⟨rfl, hl, by omega⟩
theorem best_of (yn yg ya : ByteArray) (y0 y1 y2 yr : Int) (ywa yba : Option Addr) (ywn ywc ybn ybc : Nat) (ws bs : List Pr) (l : List Ld) (v : Value) (w : World) (hl : Loads w w.heap.size v l) (hy : yn.size ≤ maxLen ∧ yg.size ≤ maxLen ∧ ya.size ≤ maxLen)
    (h1 : Pairs w w.heap.size (.slice ywa ywn ywc) ws) (h2 : Pairs w w.heap.size (.slice yba ybn ybc) bs) :
    Calls Tryz.prog 32 #[.agg #[.string yn, .int .i64 y0, .int .i64 y1, .int .i64 y2, .slice ywa ywn ywc, .slice yba ybn ybc, .string yg, .string ya, .int .i64 yr], v] w fun e w' => BestIs (taskE yn yg ya y0 y1 y2 yr ws bs) ldE (scE (taskE yn yg ya y0 y1 y2 yr ws bs) ws bs y0 y1 y2) (scV y0 y1 y2) l e ∧ Below w.heap.size w w' := by
  have hm : ∀ x ∈ l, x.n.size ≤ maxLen ∧ Pairs w w.heap.size (.slice x.la x.ls.length x.lc) x.ls ∧ Pairs w w.heap.size (.slice x.ta x.ts.length x.tc) x.ts := by
    obtain ⟨_, _, _, _, h, _⟩ := hl
    exact h
  refine best_any yn yg ya y0 y1 y2 yr ywa yba ywn ywc ybn ybc _ ldE _ _ l v w hl (fun z hb => task_any yn yg ya y0 y1 y2 yr ywa yba ywn ywc ybn ybc ws bs z hy (h1.ovr hb) (h2.ovr hb)) (fun _ x hx z hb => ?_) (fun _ x _ h => (scV_in _ _ _ _ _ _ _ h).1) (fun h x _ => ?_)
  · obtain ⟨m1, m2, m3⟩ := hm x hx
    exact score_any yn yg ya y0 y1 y2 yr ywa yba ywn ywc ybn ybc x.n x.h0 x.h1 x.h2 x.la x.ta x.ls.length x.lc x.ts.length x.tc x.u0 x.u1 x.u2 ws bs x.ls x.ts z m1 hy (h1.ovr hb) (h2.ovr hb) (m2.ovr hb) (m3.ovr hb)
  · rw [h]
    exact scE_kinds ws bs y0 y1 y2 x
end Rg
end Go.Proofs.YthbmnkeigmbbdaaGreat
