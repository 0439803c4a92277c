/-
  disk.do: a change that is done; one that is refused; a disk that is down, or whose fuse is out, or that is not right.
-/
import Derived.Test.YtjgdmdgiicpemaaDiskRet
namespace Go.Proofs.Ytjgdmdgiicpemaa
open Go.RowKit Go.Lib Go.Sort
namespace Dk

/-- What refuse says of whatever holds these files. -/
def Refuses (fs : List Fl) (k : Int) (nm da : ByteArray) (sz : Int) (to : ByteArray) (r : Nat) : Prop :=
  ∀ (w1 : World) (v : Value), Files w1 w1.heap.size v fs → Calls Try.prog 45 #[v, .agg #[.int .u8 k, .string nm, .string da, .int .i64 sz, .string to]] w1 fun e w' => e = .returned (.int .i64 (r : Nat)) ∧ Below w1.heap.size w1 w'
/-- What changed makes of the call's own. -/
def Changes (fs fs2 : List Fl) (k : Int) (nm da : ByteArray) (sz : Int) (to : ByteArray) : Prop :=
  ∀ (base : Nat) (w1 : World) (v : Value), base ≤ w1.heap.size → Own w1 base v fs → Calls Try.prog 46 #[v, .agg #[.int .u8 k, .string nm, .string da, .int .i64 sz, .string to]] w1 fun e w' => ∃ v', e = .returned v' ∧ Own w' base v' fs2 ∧ Below base w1 w'
/-- A disk of memory of the call's own, and an error. -/
def DoIs (w : World) (fs2 : List Fl) (dn : Bool) (fu : Int) (r : Nat) (e : Ending) (w' : World) : Prop :=
  ∃ v', e = .returned (.tuple #[.agg #[v', .bool dn, .int .i64 fu], .int .i64 (r : Nat)]) ∧ Own w' w.heap.size v' fs2 ∧ Below w.heap.size w w'
theorem do_b2 {w W3 w1 w2 : World} (hk : w.heap.size + 3 ≤ w1.heap.size) (h3 : Below w.heap.size w W3) (h1 : Below (w.heap.size + 3) W3 w1) (h2 : Below w1.heap.size w1 w2) : Below w.heap.size w w2 :=
  (h3.trans (h1.mono (by omega))).trans (h2.mono (by omega))
theorem do_b4 {w W3 w1 w2 w4 : World} {u : Value} (hk : w.heap.size + 3 ≤ w1.heap.size) (h3 : Below w.heap.size w W3) (h1 : Below (w.heap.size + 3) W3 w1) (h2 : Below w1.heap.size w1 w2) (h4 : Below (w2.setCell ⟨w.heap.size, 0, none⟩ u).heap.size (w2.setCell ⟨w.heap.size, 0, none⟩ u) w4) : Below w.heap.size w w4 :=
  (bset (do_b2 hk h3 h1 h2) (Nat.le_refl _) u).trans (h4.mono (by have := h2.size; simp; omega))
theorem do_b5 {w W3 w1 w2 w4 w5 : World} {u : Value} (hk : w.heap.size + 3 ≤ w1.heap.size) (h3 : Below w.heap.size w W3) (h1 : Below (w.heap.size + 3) W3 w1) (h2 : Below w1.heap.size w1 w2) (h4 : Below (w2.setCell ⟨w.heap.size, 0, none⟩ u).heap.size (w2.setCell ⟨w.heap.size, 0, none⟩ u) w4) (h5 : Below w1.heap.size w4 w5) : Below w.heap.size w w5 :=
  (do_b4 hk h3 h1 h2 h4).trans (h5.mono (by omega))
end Dk
end Go.Proofs.Ytjgdmdgiicpemaa
