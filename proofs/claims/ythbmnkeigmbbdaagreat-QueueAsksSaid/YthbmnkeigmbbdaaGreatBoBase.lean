/-
  A BOOK IN MEMORY: nodes, tasks and binds as rows of cells, and what lies behind them.
-/
import Derived.Test.YthbmnkeigmbbdaaGreatRowG
import Derived.Test.YthbmnkeigmbbdaaGreatBookSame
import Derived.Test.YthbmnkeigmbbdaaGreatRigRow
import Derived.Test.YthbmnkeigmbbdaaGreatRigRoom
namespace Go.Proofs.YthbmnkeigmbbdaaGreat
open Go.RowKit Go.Lib
namespace Bo
set_option linter.unusedVariables false
/-- A node as it lies in a row: what it is, and where its pairs are. -/
structure NdM where
  nd : Hd.Nd
  a2 : Option Addr
  c2 : Nat
  a3 : Option Addr
  c3 : Nat
structure TdM where
  td : Hd.Td
  a4 : Option Addr
  c4 : Nat
  a5 : Option Addr
  c5 : Nat
def NdM.v2 (x : NdM) : Value := .slice x.a2 x.nd.ls.length x.c2
def NdM.v3 (x : NdM) : Value := .slice x.a3 x.nd.ts.length x.c3
def TdM.v4 (x : TdM) : Value := .slice x.a4 x.td.ws.length x.c4
def TdM.v5 (x : TdM) : Value := .slice x.a5 x.td.bs.length x.c5
def ndE (x : NdM) : List Value := [.string x.nd.n, .int .i64 x.nd.z0, .int .i64 x.nd.z1, .int .i64 x.nd.z2, .slice x.a2 x.nd.ls.length x.c2, .slice x.a3 x.nd.ts.length x.c3]
def tdE (x : TdM) : List Value := [.string x.td.n, .int .i64 x.td.z0, .int .i64 x.td.z1, .int .i64 x.td.z2, .slice x.a4 x.td.ws.length x.c4, .slice x.a5 x.td.bs.length x.c5, .string x.td.g, .string x.td.a, .int .i64 x.td.r]
def bdE (x : Rg.Pr) : List Value := [.string x.k, .string x.v]
theorem ndE_one (x : NdM) : ∀ u ∈ ndE x, u.oneCell' = true := by
  intro u hu
  simp only [ndE, List.mem_cons, List.not_mem_nil, or_false] at hu
  rcases hu with rfl | rfl | rfl | rfl | rfl | rfl <;> rfl
theorem tdE_one (x : TdM) : ∀ u ∈ tdE x, u.oneCell' = true := by
  intro u hu
  simp only [tdE, List.mem_cons, List.not_mem_nil, or_false] at hu
  rcases hu with rfl | rfl | rfl | rfl | rfl | rfl | rfl | rfl | rfl <;> rfl
theorem bdE_one (x : Rg.Pr) : ∀ u ∈ bdE x, u.oneCell' = true := by
  intro u hu
  simp only [bdE, List.mem_cons, List.not_mem_nil, or_false] at hu
  rcases hu with rfl | rfl <;> rfl
instance : Rw.Flat NdM := ⟨ndE, 6, by omega, fun _ => rfl, ndE_one⟩
instance : Rw.Flat TdM := ⟨tdE, 9, by omega, fun _ => rfl, tdE_one⟩
instance : Rw.Flat Rg.Pr := ⟨bdE, 2, by omega, fun _ => rfl, bdE_one⟩
theorem at_nd {w : World} {b o : Nat} {x : NdM} (h : Rw.At w b o x) : w.cell? ⟨b, o, none⟩ = some (.string x.nd.n) ∧ w.cell? ⟨b, o + 1, none⟩ = some (.int .i64 x.nd.z0) ∧ w.cell? ⟨b, o + 2, none⟩ = some (.int .i64 x.nd.z1) ∧ w.cell? ⟨b, o + 3, none⟩ = some (.int .i64 x.nd.z2) ∧
    w.cell? ⟨b, o + 4, none⟩ = some (.slice x.a2 x.nd.ls.length x.c2) ∧ w.cell? ⟨b, o + 5, none⟩ = some (.slice x.a3 x.nd.ts.length x.c3) :=
  ⟨h 0 _ rfl, h 1 _ rfl, h 2 _ rfl, h 3 _ rfl, h 4 _ rfl, h 5 _ rfl⟩
theorem at_td {w : World} {b o : Nat} {x : TdM} (h : Rw.At w b o x) : w.cell? ⟨b, o, none⟩ = some (.string x.td.n) ∧ w.cell? ⟨b, o + 1, none⟩ = some (.int .i64 x.td.z0) ∧ w.cell? ⟨b, o + 2, none⟩ = some (.int .i64 x.td.z1) ∧ w.cell? ⟨b, o + 3, none⟩ = some (.int .i64 x.td.z2) ∧
    w.cell? ⟨b, o + 4, none⟩ = some (.slice x.a4 x.td.ws.length x.c4) ∧ w.cell? ⟨b, o + 5, none⟩ = some (.slice x.a5 x.td.bs.length x.c5) ∧ w.cell? ⟨b, o + 6, none⟩ = some (.string x.td.g) ∧ w.cell? ⟨b, o + 7, none⟩ = some (.string x.td.a) ∧ w.cell? ⟨b, o + 8, none⟩ = some (.int .i64 x.td.r) :=
  ⟨h 0 _ rfl, h 1 _ rfl, h 2 _ rfl, h 3 _ rfl, h 4 _ rfl, h 5 _ rfl, h 6 _ rfl, h 7 _ rfl, h 8 _ rfl⟩
theorem at_bd {w : World} {b o : Nat} {x : Rg.Pr} (h : Rw.At w b o x) : w.cell? ⟨b, o, none⟩ = some (.string x.k) ∧ w.cell? ⟨b, o + 1, none⟩ = some (.string x.v) := ⟨h 0 _ rfl, h 1 _ rfl⟩
/-- What a node, a task must bear to be in memory at all. -/
def FitS (s : ByteArray) : Prop := s.size ≤ maxLen
def FitL (l : List Rg.Pr) : Prop := l.length * 32 ≤ 140737488355328 ∧ ∀ p ∈ l, p.k.size ≤ maxLen ∧ p.v.size ≤ maxLen
def FitN (n : Hd.Nd) : Prop := FitS n.n ∧ (Rg.In64 n.z0 ∧ Rg.In64 n.z1 ∧ Rg.In64 n.z2) ∧ FitL n.ls ∧ FitL n.ts
def FitT (n : Hd.Td) : Prop := (FitS n.n ∧ FitS n.g ∧ FitS n.a) ∧ (Rg.In64 n.z0 ∧ Rg.In64 n.z1 ∧ Rg.In64 n.z2 ∧ Rg.In64 n.r) ∧ FitL n.ws ∧ FitL n.bs
def FitB (x : Rg.Pr) : Prop := FitS x.k ∧ FitS x.v
theorem sl_pairs {w : World} {A B : Nat} {v : Value} {l : List Rg.Pr} (h : Rw.Sl w A B v l) (hf : FitL l) : Rg.Pairs w B v l := by
  obtain ⟨a, c, rfl, h1, h2, h3, h4⟩ := h
  refine ⟨a, c, rfl, by omega, hf.2, fun hp => ?_⟩
  obtain ⟨b, off, rfl, -, hlt, hc⟩ := h4 hp
  refine ⟨b, off, rfl, hlt, fun i hi => ?_⟩
  have hat : Rw.At w b (off + i * 2) l[i] := hc i hi
  exact at_bd hat
/-- A node's pairs, below block B. -/
def DeepN (w : World) (B : Nat) (x : NdM) : Prop := Rw.Sl w 0 B x.v2 x.nd.ls ∧ Rw.Sl w 0 B x.v3 x.nd.ts
def DeepT (w : World) (B : Nat) (x : TdM) : Prop := Rw.Sl w 0 B x.v4 x.td.ws ∧ Rw.Sl w 0 B x.v5 x.td.bs
theorem DeepN.pr {w : World} {B : Nat} {x : NdM} (h : DeepN w B x) (hf : FitN x.nd) : Rg.Pairs w B x.v2 x.nd.ls ∧ Rg.Pairs w B x.v3 x.nd.ts := ⟨sl_pairs h.1 hf.2.2.1, sl_pairs h.2 hf.2.2.2⟩
theorem DeepT.pr {w : World} {B : Nat} {x : TdM} (h : DeepT w B x) (hf : FitT x.td) : Rg.Pairs w B x.v4 x.td.ws ∧ Rg.Pairs w B x.v5 x.td.bs := ⟨sl_pairs h.1 hf.2.2.1, sl_pairs h.2 hf.2.2.2⟩
theorem DeepN.keep {w w' : World} {B : Nat} {x : NdM} (h : DeepN w B x) (hb : Below B w w') : DeepN w' B x := ⟨h.1.keep hb, h.2.keep hb⟩
theorem DeepT.keep {w w' : World} {B : Nat} {x : TdM} (h : DeepT w B x) (hb : Below B w w') : DeepT w' B x := ⟨h.1.keep hb, h.2.keep hb⟩
theorem DeepN.more {w : World} {B B' : Nat} {x : NdM} (h : DeepN w B x) (hb : B ≤ B') : DeepN w B' x := ⟨h.1.more hb (Nat.le_refl _), h.2.more hb (Nat.le_refl _)⟩
theorem DeepT.more {w : World} {B B' : Nat} {x : TdM} (h : DeepT w B x) (hb : B ≤ B') : DeepT w B' x := ⟨h.1.more hb (Nat.le_refl _), h.2.more hb (Nat.le_refl _)⟩
theorem DeepN.on {w w' : World} {x : NdM} (h : DeepN w w.heap.size x) (hb : Below w.heap.size w w') : DeepN w' w'.heap.size x := (h.keep hb).more hb.size
theorem DeepT.on {w w' : World} {x : TdM} (h : DeepT w w.heap.size x) (hb : Below w.heap.size w w') : DeepT w' w'.heap.size x := (h.keep hb).more hb.size
/-- v is a slice of the nodes l, in memory below block B. -/
def Nds (w : World) (B : Nat) (v : Value) (l : List Hd.Nd) : Prop := ∃ m : List NdM, l = m.map (·.nd) ∧ Rw.Sl w 0 B v m ∧ (∀ x ∈ m, DeepN w B x ∧ FitN x.nd) ∧ l.length * 88 ≤ 140737488355328
def Tds (w : World) (B : Nat) (v : Value) (l : List Hd.Td) : Prop := ∃ m : List TdM, l = m.map (·.td) ∧ Rw.Sl w 0 B v m ∧ (∀ x ∈ m, DeepT w B x ∧ FitT x.td) ∧ l.length * 128 ≤ 140737488355328
def Bds (w : World) (B : Nat) (v : Value) (l : List Rg.Pr) : Prop := Rw.Sl w 0 B v l ∧ (∀ x ∈ l, FitB x) ∧ l.length * 32 ≤ 140737488355328
theorem Nds.keep {w w' : World} {B : Nat} {v : Value} {l : List Hd.Nd} (h : Nds w B v l) (hb : Below B w w') : Nds w' B v l := by
  obtain ⟨m, e, h1, h2, h3⟩ := h
  exact ⟨m, e, h1.keep hb, fun x hx => ⟨(h2 x hx).1.keep hb, (h2 x hx).2⟩, h3⟩
theorem Tds.keep {w w' : World} {B : Nat} {v : Value} {l : List Hd.Td} (h : Tds w B v l) (hb : Below B w w') : Tds w' B v l := by
  obtain ⟨m, e, h1, h2, h3⟩ := h
  exact ⟨m, e, h1.keep hb, fun x hx => ⟨(h2 x hx).1.keep hb, (h2 x hx).2⟩, h3⟩
theorem Bds.keep {w w' : World} {B : Nat} {v : Value} {l : List Rg.Pr} (h : Bds w B v l) (hb : Below B w w') : Bds w' B v l := ⟨h.1.keep hb, h.2⟩
theorem Nds.more {w : World} {B B' : Nat} {v : Value} {l : List Hd.Nd} (h : Nds w B v l) (hb : B ≤ B') : Nds w B' v l := by
  obtain ⟨m, e, h1, h2, h3⟩ := h
  exact ⟨m, e, h1.more hb (Nat.le_refl _), fun x hx => ⟨(h2 x hx).1.more hb, (h2 x hx).2⟩, h3⟩
theorem Tds.more {w : World} {B B' : Nat} {v : Value} {l : List Hd.Td} (h : Tds w B v l) (hb : B ≤ B') : Tds w B' v l := by
  obtain ⟨m, e, h1, h2, h3⟩ := h
  exact ⟨m, e, h1.more hb (Nat.le_refl _), fun x hx => ⟨(h2 x hx).1.more hb, (h2 x hx).2⟩, h3⟩
theorem Bds.more {w : World} {B B' : Nat} {v : Value} {l : List Rg.Pr} (h : Bds w B v l) (hb : B ≤ B') : Bds w B' v l := ⟨h.1.more hb (Nat.le_refl _), h.2⟩
theorem Nds.on {w w' : World} {v : Value} {l : List Hd.Nd} (h : Nds w w.heap.size v l) (hb : Below w.heap.size w w') : Nds w' w'.heap.size v l := (h.keep hb).more hb.size
theorem Tds.on {w w' : World} {v : Value} {l : List Hd.Td} (h : Tds w w.heap.size v l) (hb : Below w.heap.size w w') : Tds w' w'.heap.size v l := (h.keep hb).more hb.size
theorem Bds.on {w w' : World} {v : Value} {l : List Rg.Pr} (h : Bds w w.heap.size v l) (hb : Below w.heap.size w w') : Bds w' w'.heap.size v l := (h.keep hb).more hb.size
theorem Nds.slice {w : World} {B : Nat} {v : Value} {l : List Hd.Nd} (h : Nds w B v l) : ∃ a c, v = .slice a l.length c := by
  obtain ⟨m, rfl, h1, -⟩ := h
  rw [List.length_map]
  exact h1.slice
theorem Tds.slice {w : World} {B : Nat} {v : Value} {l : List Hd.Td} (h : Tds w B v l) : ∃ a c, v = .slice a l.length c := by
  obtain ⟨m, rfl, h1, -⟩ := h
  rw [List.length_map]
  exact h1.slice
theorem Bds.slice {w : World} {B : Nat} {v : Value} {l : List Rg.Pr} (h : Bds w B v l) : ∃ a c, v = .slice a l.length c := h.1.slice
theorem Nds.nil (w : World) (B : Nat) : Nds w B (.slice none 0 0) [] := ⟨[], rfl, Rw.Sl.nil _ _ _, by simp, by simp⟩
theorem Tds.nil (w : World) (B : Nat) : Tds w B (.slice none 0 0) [] := ⟨[], rfl, Rw.Sl.nil _ _ _, by simp, by simp⟩
theorem Bds.nil (w : World) (B : Nat) : Bds w B (.slice none 0 0) [] := ⟨Rw.Sl.nil _ _ _, by simp, by simp⟩
/-- A book, as plain data. -/
structure Bk where
  ns : List Hd.Nd
  ts : List Hd.Td
  bs : List Rg.Pr
  fe : Nat
/-- A book's three slices, below block B. -/
structure Books (w : World) (B : Nat) (vn vt vb : Value) (b : Bk) : Prop where
  hn : Nds w B vn b.ns
  ht : Tds w B vt b.ts
  hb : Bds w B vb b.bs
  hf : b.fe < 18446744073709551616
theorem Books.keep {w w' : World} {B : Nat} {vn vt vb : Value} {b : Bk} (h : Books w B vn vt vb b) (hb : Below B w w') : Books w' B vn vt vb b := ⟨h.hn.keep hb, h.ht.keep hb, h.hb.keep hb, h.hf⟩
theorem Books.more {w : World} {B B' : Nat} {vn vt vb : Value} {b : Bk} (h : Books w B vn vt vb b) (hb : B ≤ B') : Books w B' vn vt vb b := ⟨h.hn.more hb, h.ht.more hb, h.hb.more hb, h.hf⟩
theorem Books.on {w w' : World} {vn vt vb : Value} {b : Bk} (h : Books w w.heap.size vn vt vb b) (hb : Below w.heap.size w w') : Books w' w'.heap.size vn vt vb b := (h.keep hb).more hb.size
/-- A book's cells. -/
def bkC (vn vt vb : Value) (b : Bk) : List Value := [vn, vt, vb, .int .u64 (b.fe : Nat)]
end Bo
end Go.Proofs.YthbmnkeigmbbdaaGreat
