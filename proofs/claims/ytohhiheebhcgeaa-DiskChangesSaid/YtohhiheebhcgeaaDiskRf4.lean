/-
  The document's changes: what they share.
-/
import Derived.Test.YtohhiheebhcgeaaDiskMath2
namespace Go.Proofs.Ytohhiheebhcgeaa
open Go.RowKit Go.Lib Go.Sort
namespace Dk
theorem Own.al {w : World} {base : Nat} {v : Value} {fs : List Fl} (h : Own w base v fs) (o : Obj) : Own (w.alloc o) base v fs := h.keep ((Below.refl _ _).alloc (Nat.le_refl _) _)
theorem outO_bad {fs : List Fl} {dn : Bool} {fu : Int} {r : Nat} {ch : List Fl} {ad : Bool} (h : rdN fs dn ≠ 0) : outO fs dn fu r ch ad = badO fs dn fu (rdN fs dn) := by
  unfold outO badO
  rcases rd_cases fs dn with ⟨hk, h'⟩ | ⟨hk, rfl, h'⟩ | ⟨hk, rfl, h'⟩
  · rw [h', if_neg (by omega), if_pos rfl]
  · rw [h', if_pos hk, if_pos rfl, if_neg (by omega)]
  · exact absurd h' h
theorem outO_ref {fs : List Fl} {fu : Int} {r : Nat} {ch : List Fl} {ad : Bool} (h : chkN fs = 0) (hr : r ≠ 0) (h10 : r ≠ 10) : outO fs false fu r ch ad = badO fs false fu r := by
  unfold outO badO
  rw [if_pos h, if_neg (by simp), if_neg hr, if_neg h10]
theorem outO_fus {fs : List Fl} {ch : List Fl} {ad : Bool} (h : chkN fs = 0) : outO fs false 0 0 ch ad = ⟨if ad then ch else fs, true, 0, 8⟩ := by
  unfold outO
  rw [if_pos h, if_neg (by simp), if_pos rfl, if_pos rfl]
theorem outO_run {fs : List Fl} {fu : Int} {ch : List Fl} {ad : Bool} (h : chkN fs = 0) (hf : fu ≠ 0) : outO fs false fu 0 ch ad = ⟨ch, false, if 0 < fu then fu - 1 else fu, 0⟩ := by
  unfold outO
  rw [if_pos h, if_neg (by simp), if_pos rfl, if_neg hf]
/-- The disk's box at w's end, the answer's cell behind it. -/
structure R2 (w x : World) (a : Option Addr) (c : Nat) (dn : Bool) (fu : Int) (fs : List Fl) : Prop where
  st : St w w.heap.size x (.slice a fs.length c) dn fu fs
  res : Dx (w.heap.size + 1) x (.slice none 0 0) false 0
  sz : w.heap.size + 2 ≤ x.heap.size
theorem R2.made {w : World} {a : Option Addr} {c : Nat} {dn : Bool} {fu : Int} {fs : List Fl} (h : Files w w.heap.size (.slice a fs.length c) fs) :
    R2 w ((w.alloc (.cells #[.slice a fs.length c, .bool dn, .int .i64 fu] 24)).alloc (.cells #[.slice none 0 0, .bool false, .int .i64 0] 24)) a c dn fu fs := by
  have hw := boxes2' w (.slice a fs.length c) (.slice none 0 0) dn false fu 0
  exact ⟨⟨Nat.le_refl _, by simp; omega, hw.2.2, hw.1, (h.al _).al _⟩, hw.2.1, by simp⟩
theorem R2.fill {w x x' : World} {a : Option Addr} {c : Nat} {dn : Bool} {fu : Int} {fs : List Fl} (h : R2 w x a c dn fu fs) (hb : Below x.heap.size x x') :
    R2 w x' a c dn fu fs ∧ x'.cell? ⟨w.heap.size, 0, none⟩ = some (.slice a fs.length c) ∧ x'.cell? ⟨w.heap.size, 1, none⟩ = some (.bool dn) ∧ x'.cell? ⟨w.heap.size, 2, none⟩ = some (.int .i64 fu) ∧ Dx (w.heap.size + 1) x' (.slice none 0 0) false 0 ∧ w.heap.size + 1 < x'.heap.size :=
  have hs := h.sz
  have hd := h.res.keep hb (by omega)
  have hz := hb.size
  ⟨⟨h.st.keep hb, hd, by omega⟩, (h.st.keep hb).dx.d0, (h.st.keep hb).dx.d1, (h.st.keep hb).dx.d2, hd, by omega⟩
end Dk
end Go.Proofs.Ytohhiheebhcgeaa
