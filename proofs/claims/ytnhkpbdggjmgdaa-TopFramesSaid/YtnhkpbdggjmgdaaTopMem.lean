/-
  A disk in a variable, and a row of the call's own beside it: what an append to the row leaves of the disk.
-/
import Derived.Test.YtnhkpbdggjmgdaaTopDisk
import Derived.Test.YtnhkpbdggjmgdaaArg
import Derived.Test.YtnhkpbdggjmgdaaMem
namespace Go.Proofs.Ytnhkpbdggjmgdaa
open Go.RowKit Go.Lib Go.Sort
namespace Dk
theorem Files.grown {x y : World} {v : Value} {fs : List Fl} (h : Files x x.heap.size v fs) {row : Option Nat} (hg : x.grownBy y row) (hne : ∀ b off c, v = .slice (some ⟨b, off, none⟩) fs.length c → some b ≠ row) : Files y y.heap.size v fs := by
  obtain ⟨a, c, rfl, h1, h2, h3⟩ := h
  refine ⟨a, c, rfl, h1, h2, fun hp => ?_⟩
  obtain ⟨b, off, rfl, hlt, hc⟩ := h3 hp
  have k : ∀ o, y.cell? ⟨b, o, none⟩ = x.cell? ⟨b, o, none⟩ := fun o => World.cell?_of_block (hg.block b hlt (hne b off c rfl))
  refine ⟨b, off, rfl, Nat.lt_of_lt_of_le hlt hg.size, fun i hi => ?_⟩
  rw [k, k, k]
  exact hc i hi
theorem row_lo {w : World} {base : Nat} {e : TypeId} {size n : Nat} {u : Value} {xs : List Value} (h : w.ownsRow base e size u n xs) (g : Nat) (hg : u.ownBlock = some g) : base ≤ g := by
  rcases h.2 with ⟨rfl, -⟩ | ⟨g', cap, cur, rfl, hb, -⟩
  · cases hg
  · obtain rfl : g' = g := by simpa [Value.ownBlock] using hg
    exact hb
theorem St.row {w x x' y : World} {B : Nat} {v v' u : Value} {dn dn2 : Bool} {fu fu2 : Int} {fs fs2 : List Fl} {E : TypeId} {n : Nat} {xs : List Value} {o : Obj} (h : St w B x v dn fu fs) (ho : Own x' x.heap.size v' fs2) (hb : Below x.heap.size x x') (hf : Fine fs2) (hl : fs2.length ≤ 4611686018427387904)
    (hu : x.ownsRow (B + 1) E 1 u n xs) (hg : ((st3 x' B v' dn2 fu2).alloc o).grownBy y u.ownBlock) : St w B y v' dn2 fu2 fs2 := by
  have h' := h.keep hb
  have hdx : Dx B (st3 x' B v' dn2 fu2) v' dn2 fu2 := h'.dx.st
  have hsz : (st3 x' B v' dn2 fu2).heap.size = x'.heap.size := by simp [st3]
  have hbel : Below w.heap.size w (st3 x' B v' dn2 fu2) := bset (bset (bset h'.below h.lo _) h.lo _) h.lo _
  have hown : Own (st3 x' B v' dn2 fu2) x.heap.size v' fs2 := ((ho.sb h.hi _).sb h.hi _).sb h.hi _
  have hlo : ∀ g, u.ownBlock = some g → B + 1 ≤ g := row_lo hu
  have hhi : ∀ g, u.ownBlock = some g → g < x.heap.size := fun g e => (hu.lt g e).2
  have hB : Below (B + 1) ((st3 x' B v' dn2 fu2).alloc o) y := (Below.refl _ _).grown hg (by have := h'.hi; simp [hsz]; omega) (fun k e => hlo k e)
  have hbx : Below (B + 1) (st3 x' B v' dn2 fu2) y := ((Below.refl _ _).alloc (by have := h'.hi; rw [hsz]; omega) o).trans hB
  have hfz := hown.files hf hl
  refine ⟨h.lo, by have := hg.size; have := h'.hi; simp [hsz] at *; omega, hbel.trans (hbx.mono (by have := h.lo; omega)), hdx.keep hbx (by omega), ?_⟩
  have hfa : Files ((st3 x' B v' dn2 fu2).alloc o) ((st3 x' B v' dn2 fu2).alloc o).heap.size v' fs2 := hfz.on ((Below.refl _ _).alloc (Nat.le_refl _) o) (by simp)
  refine hfa.grown hg (fun b off c e => ?_)
  intro hrow
  have h1 := hhi b hrow.symm
  by_cases hn : 0 < fs2.length
  · obtain ⟨g3, cap, e3, hb3, -⟩ := ho.form hn
    rw [e] at e3
    simp only [Value.slice.injEq, Option.some.injEq, Addr.mk.injEq] at e3
    omega
  · rcases ho.2 with ⟨e3, -⟩ | ⟨g3, cap, cur, e3, hb3, -⟩
    · rw [e] at e3; simp at e3
    · rw [e] at e3
      simp only [Value.slice.injEq, Option.some.injEq, Addr.mk.injEq] at e3
      omega
end Dk
end Go.Proofs.Ytnhkpbdggjmgdaa
