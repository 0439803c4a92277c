/-
  disk.do: what comes back, by what refuse and changed say.
-/
import Derived.Test.YtjgdmdgiicpemaaDiskInsert
namespace Go.Proofs.Ytjgdmdgiicpemaa
open Go.RowKit Go.Lib Go.Sort
namespace Dk

/-- do's own variables: the disk's box at B, the change's at B + 1, the result's at B + 2. -/
structure Bx (B : Nat) (w : World) (v : Value) (dn : Bool) (fu : Int) (k : Int) (nm da : ByteArray) (sz : Int) (to : ByteArray) : Prop where
  d0 : w.cell? ⟨B, 0, none⟩ = some v
  d1 : w.cell? ⟨B, 1, none⟩ = some (.bool dn)
  d2 : w.cell? ⟨B, 2, none⟩ = some (.int .i64 fu)
  c0 : w.cell? ⟨B + 1, 0, none⟩ = some (.int .u8 k)
  c1 : w.cell? ⟨B + 1, 1, none⟩ = some (.string nm)
  c2 : w.cell? ⟨B + 1, 2, none⟩ = some (.string da)
  c3 : w.cell? ⟨B + 1, 3, none⟩ = some (.int .i64 sz)
  c4 : w.cell? ⟨B + 1, 4, none⟩ = some (.string to)
  r0 : w.cell? ⟨B + 1 + 1, 0, none⟩ = some (.slice none 0 0)
  r1 : w.cell? ⟨B + 1 + 1, 1, none⟩ = some (.bool false)
  r2 : w.cell? ⟨B + 1 + 1, 2, none⟩ = some (.int .i64 0)
  f0 : w.frozen? ⟨B, 0, none⟩ = false
  f1 : w.frozen? ⟨B, 1, none⟩ = false
  f2 : w.frozen? ⟨B, 2, none⟩ = false
  g0 : w.frozen? ⟨B + 1 + 1, 0, none⟩ = false
  g1 : w.frozen? ⟨B + 1 + 1, 1, none⟩ = false
  g2 : w.frozen? ⟨B + 1 + 1, 2, none⟩ = false
theorem Bx.keep {B C : Nat} {w w' : World} {v : Value} {dn : Bool} {fu k : Int} {nm da : ByteArray} {sz : Int} {to : ByteArray} (h : Bx B w v dn fu k nm da sz to) (hb : Below C w w') (hC : B + 3 ≤ C) : Bx B w' v dn fu k nm da sz to :=
  have a0 : ∀ o, w'.cell? ⟨B, o, none⟩ = w.cell? ⟨B, o, none⟩ := fun o => hb.cell (by show B < C; omega)
  have a1 : ∀ o, w'.cell? ⟨B + 1, o, none⟩ = w.cell? ⟨B + 1, o, none⟩ := fun o => hb.cell (by show B + 1 < C; omega)
  have a2 : ∀ o, w'.cell? ⟨B + 1 + 1, o, none⟩ = w.cell? ⟨B + 1 + 1, o, none⟩ := fun o => hb.cell (by show B + 1 + 1 < C; omega)
  have b0 : ∀ o, w'.frozen? ⟨B, o, none⟩ = w.frozen? ⟨B, o, none⟩ := fun o => hb.frozen (by show B < C; omega)
  have b2 : ∀ o, w'.frozen? ⟨B + 1 + 1, o, none⟩ = w.frozen? ⟨B + 1 + 1, o, none⟩ := fun o => hb.frozen (by show B + 1 + 1 < C; omega)
  ⟨(a0 _).trans h.d0, (a0 _).trans h.d1, (a0 _).trans h.d2, (a1 _).trans h.c0, (a1 _).trans h.c1, (a1 _).trans h.c2, (a1 _).trans h.c3, (a1 _).trans h.c4, (a2 _).trans h.r0, (a2 _).trans h.r1, (a2 _).trans h.r2,
    (b0 _).trans h.f0, (b0 _).trans h.f1, (b0 _).trans h.f2, (b2 _).trans h.g0, (b2 _).trans h.g1, (b2 _).trans h.g2⟩
theorem Bx.made (w : World) (v : Value) (dn : Bool) (fu k : Int) (nm da : ByteArray) (sz : Int) (to : ByteArray) :
    Bx w.heap.size (((w.alloc (.cells #[v, .bool dn, .int .i64 fu] 27)).alloc (.cells #[.int .u8 k, .string nm, .string da, .int .i64 sz, .string to] 66)).alloc (.cells #[.slice none 0 0, .bool false, .int .i64 0] 27)) v dn fu k nm da sz to := by
  constructor <;> simp [go_sem]
theorem Bx.set {B : Nat} {w : World} {v : Value} {dn : Bool} {fu k : Int} {nm da : ByteArray} {sz : Int} {to : ByteArray} (h : Bx B w v dn fu k nm da sz to) (u : Value) : Bx B (w.setCell ⟨B, 0, none⟩ u) u dn fu k nm da sz to := by
  have a : ∀ x, x ≠ (⟨B, 0, none⟩ : Addr) → (w.setCell ⟨B, 0, none⟩ u).cell? x = w.cell? x := fun x hx => World.cell?_setCell_other _ _ _ _ (fun e => hx e.symm)
  have b : ∀ x, (w.setCell ⟨B, 0, none⟩ u).frozen? x = w.frozen? x := fun x => World.frozen?_setCell _ _ _ _
  exact ⟨World.cell?_setCell_same _ _ _ h.d0, (a _ (by simp)).trans h.d1, (a _ (by simp)).trans h.d2, (a _ (by simp)).trans h.c0, (a _ (by simp)).trans h.c1, (a _ (by simp)).trans h.c2, (a _ (by simp)).trans h.c3, (a _ (by simp)).trans h.c4,
    (a _ (by simp)).trans h.r0, (a _ (by simp)).trans h.r1, (a _ (by simp)).trans h.r2, (b _).trans h.f0, (b _).trans h.f1, (b _).trans h.f2, (b _).trans h.g0, (b _).trans h.g1, (b _).trans h.g2⟩
theorem Own.sb {w : World} {base : Nat} {v : Value} {fs : List Fl} (h : Own w base v fs) {a : Addr} (ha : a.block < base) (u : Value) : Own (w.setCell a u) base v fs := ownsRow_setCell_below h ha u
theorem bset {B : Nat} {w w' : World} (h : Below B w w') {a : Addr} (ha : B ≤ a.block) (u : Value) : Below B w (w'.setCell a u) :=
  ⟨h.os, h.tape, h.output, by simpa using h.size, fun i hi => (Below.heap_setCell _ _ _ _ (by omega)).trans (h.block i hi)⟩
theorem Own.slice {w : World} {base : Nat} {v : Value} {fs : List Fl} (h : Own w base v fs) : ∃ a c, v = .slice a fs.length c := by
  rcases h.forms with ⟨rfl, rfl⟩ | ⟨g, cap, rfl, _⟩
  · exact ⟨none, 0, rfl⟩
  · exact ⟨_, _, rfl⟩
end Dk
end Go.Proofs.Ytjgdmdgiicpemaa
