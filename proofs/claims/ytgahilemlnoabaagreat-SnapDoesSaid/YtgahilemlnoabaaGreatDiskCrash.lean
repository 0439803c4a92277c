/-
  Crash: what is left of each file.
-/
import Derived.Test.YtgahilemlnoabaaGreatDiskAdd
namespace Go.Proofs.YtgahilemlnoabaaGreat
open Go.RowKit Go.Lib Go.Sort
namespace Dk

/-- v is a slice of the ints ks, in memory below block B. -/
def Ints (w : World) (B : Nat) (v : Value) (ks : List Int) : Prop :=
  ∃ a c, v = .slice a ks.length c ∧ ks.length ≤ 4611686018427387904 ∧ (∀ x ∈ ks, -9223372036854775808 ≤ x ∧ x ≤ 9223372036854775807) ∧
    (0 < ks.length → ∃ b off, a = some ⟨b, off, none⟩ ∧ b < B ∧ ∀ i (h : i < ks.length), w.cell? ⟨b, off + i, none⟩ = some (.int .i64 ks[i]))
/-- How many bytes of a file are left. -/
def crN (f : Fl) (o : Option Int) : Nat :=
  match o with
  | none => f.sy.toNat
  | some k => if k ≤ 0 then f.sy.toNat else if k < (f.da.size : Int) - f.sy then (f.sy + k).toNat else f.da.size
def crF (f : Fl) (n : Nat) : Fl := ⟨f.nm, f.da.extract 0 n, n⟩
def crS (fs : List Fl) (ks : List Int) : Nat → List Fl
  | 0 => fs
  | k + 1 => (crS fs ks k).set k (match fs[k]? with | none => ⟨⟨#[]⟩, ⟨#[]⟩, 0⟩ | some f => crF f (crN f ks[k]?))
theorem crS_len (fs : List Fl) (ks : List Int) : ∀ k, (crS fs ks k).length = fs.length
  | 0 => rfl
  | k + 1 => by rw [crS, List.length_set, crS_len fs ks k]
theorem crS_late (fs : List Fl) (ks : List Int) : ∀ k i, k ≤ i → (crS fs ks k)[i]? = fs[i]?
  | 0, _, _ => rfl
  | k + 1, i, h => by rw [crS, List.getElem?_set_ne (by omega), crS_late fs ks k i (by omega)]
theorem crS_next (fs : List Fl) (ks : List Int) (k : Nat) (h : k < fs.length) : crS fs ks (k + 1) = (crS fs ks k).set k (crF fs[k] (crN fs[k] ks[k]?)) := by
  rw [crS, List.getElem?_eq_getElem h]
theorem ext_all (d : ByteArray) : d.extract 0 d.size = d := by
  apply ByteArray.ext
  simp
theorem sy_fine (fs : List Fl) (h : okTo fs fs.length = true) (k : Nat) (hk : k < fs.length) : 0 ≤ fs[k].sy ∧ fs[k].sy ≤ fs[k].da.size := by
  have := okAt_of fs h k hk
  cases k with
  | zero => rw [okAt_zero fs hk] at this; simp at this; omega
  | succ j => rw [okAt_succ fs j hk] at this; simp at this; omega

/-- A round's store of the bytes alone. -/
theorem Own.roundA {w : World} {base g cap : Nat} {l : List Fl} (h : Own w base (.slice (some ⟨g, 0, none⟩) l.length cap) l) (i : Nat) (hi : i < l.length) (nm d : ByteArray) (s : Nat) (he : l[i] = ⟨nm, d, s⟩) :
    Own (w.setCell ⟨g, i * 3 + 1, none⟩ (.string (d.extract 0 s))) base (.slice (some ⟨g, 0, none⟩) l.length cap) (l.set i (crF ⟨nm, d, s⟩ s)) ∧ w.grownBy (w.setCell ⟨g, i * 3 + 1, none⟩ (.string (d.extract 0 s))) (some g) := by
  have := h.set1 i hi (d.extract 0 s)
  rw [he] at this
  exact this
/-- A round's store of the number synced alone. -/
theorem Own.roundC {w : World} {base g cap : Nat} {l : List Fl} (h : Own w base (.slice (some ⟨g, 0, none⟩) l.length cap) l) (i : Nat) (hi : i < l.length) (nm d : ByteArray) (s : Int) (he : l[i] = ⟨nm, d, s⟩) :
    Own (w.setCell ⟨g, i * 3 + 2, none⟩ (.int .i64 (d.size : Nat))) base (.slice (some ⟨g, 0, none⟩) l.length cap) (l.set i (crF ⟨nm, d, s⟩ d.size)) ∧ w.grownBy (w.setCell ⟨g, i * 3 + 2, none⟩ (.int .i64 (d.size : Nat))) (some g) := by
  have := h.set2 i hi (d.size : Int)
  rw [he] at this
  unfold crF
  rw [ext_all]
  exact this
/-- A round's two stores. -/
theorem Own.roundB {w : World} {base g cap : Nat} {l : List Fl} (h : Own w base (.slice (some ⟨g, 0, none⟩) l.length cap) l) (i : Nat) (hi : i < l.length) (nm d : ByteArray) (s : Int) (n : Nat) (he : l[i] = ⟨nm, d, s⟩) :
    Own ((w.setCell ⟨g, i * 3 + 2, none⟩ (.int .i64 (n : Nat))).setCell ⟨g, i * 3 + 1, none⟩ (.string (d.extract 0 n))) base (.slice (some ⟨g, 0, none⟩) l.length cap) (l.set i (crF ⟨nm, d, s⟩ n)) ∧
      w.grownBy ((w.setCell ⟨g, i * 3 + 2, none⟩ (.int .i64 (n : Nat))).setCell ⟨g, i * 3 + 1, none⟩ (.string (d.extract 0 n))) (some g) := by
  obtain ⟨h1, h2⟩ := h.set2 i hi (n : Int)
  rw [he] at h1
  have hl : (l.set i ⟨nm, d, (n : Int)⟩).length = l.length := List.length_set
  rw [← hl] at h1
  obtain ⟨h3, h4⟩ := h1.set1 i (by rw [hl]; exact hi) (d.extract 0 n)
  simp only [List.getElem_set_self, List.set_set] at h3
  rw [hl] at h3
  refine ⟨h3, ⟨h4.os.trans h2.os, h4.tape.trans h2.tape, h4.output.trans h2.output, Nat.le_trans h2.size h4.size, fun j hj hne => ?_⟩⟩
  exact (h4.block j (Nat.lt_of_lt_of_le hj h2.size) hne).trans (h2.block j hj hne)

theorem bset' {B : Nat} {w w1 w2 : World} {g : Nat} (h : Below B w w1) (hg : w1.grownBy w2 (some g)) (hB : B ≤ w1.heap.size) (hbg : B ≤ g) : Below B w w2 := h.grown hg hB (fun k hk => by cases hk; exact hbg)

end Dk
end Go.Proofs.YtgahilemlnoabaaGreat
