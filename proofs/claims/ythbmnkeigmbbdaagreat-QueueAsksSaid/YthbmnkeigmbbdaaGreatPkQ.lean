/-
  Merged: PackNum, PackMath, PackBytes, PackTakeMath, PackTakeNum, PackTakeRef, Mem, PackRefNum, PackText, PackSum, PackChk, PackFrame, PackTakeFr, PackBackMath, HardPart, PartsMk, OrdTold.
-/
import Derived.Lib.BitFns
import Derived.Laws.Entries
import Derived.Laws.Concat
import Derived.Laws.BitsAllLaws
import Derived.Laws.BitsLemmas
import Derived.Test.YthbmnkeigmbbdaaGreatRows
import Derived.WalkKit
import Derived.WalkLawsBesides
import Derived.WalkSpells
import Derived.Lib.Hide
import Derived.Deep.LoopGhost
import Derived.Deep.OwnRows
import Derived.Deep.RegionWith
import Derived.Deep.QuietTactic
import Derived.BigQuiet
import Derived.Laws.AppendOwnNone
import Derived.Deep.DeepCutAuto
import Derived.Laws.ResultCell
import Derived.Laws.Externs
import Derived.Lib.OthersKept
import Derived.Lib.Builder
import Derived.Lib.AppendStr
import Derived.Lib.UnsafeStr
/-
  PLAIN NUMBERS FOR PACKAGE pack: a number's bytes, the highest one first; how many it needs; what bytes say.
-/
namespace Go.Proofs.YthbmnkeigmbbdaaGreat
namespace PM

/-- The lowest k bytes of n, the highest one first. -/
def be : Nat → Nat → List UInt8
  | 0, _ => []
  | k + 1, n => be k (n / 256) ++ [UInt8.ofNat n]
/-- What bytes say, the highest one first. -/
def val (l : List UInt8) : Nat := l.foldl (fun n b => n * 256 + b.toNat) 0
/-- How many bytes n needs. -/
def nsz (n : Nat) : Nat := (Lib.bitLen n + 7) / 8
def num (n : Nat) : List UInt8 := UInt8.ofNat (nsz n) :: be (nsz n) n

/-- Bytes as a string of the model's. -/
def bs (l : List UInt8) : ByteArray := ⟨l.toArray⟩
end PM
end Go.Proofs.YthbmnkeigmbbdaaGreat

/-
  PLAIN NUMBERS FOR PACKAGE pack: the check of bytes, a number's bytes. Nothing of the program is named here.
-/
namespace Go.Proofs.YthbmnkeigmbbdaaGreat
namespace PM

/-- One doubling of a check. -/
def crcBit (c : Nat) : Nat := if 32768 ≤ c then (2 * c - 65536) ^^^ 4129 else 2 * c
def crcBits : Nat → Nat → Nat
  | 0, c => c
  | k + 1, c => crcBit (crcBits k c)
def crcByte (c b : Nat) : Nat := crcBits 8 (c ^^^ (b * 256))
def crcFrom (c : Nat) (l : List UInt8) : Nat := l.foldl (fun c b => crcByte c b.toNat) c
def crc (l : List UInt8) : Nat := crcFrom 65535 l

end PM
end Go.Proofs.YthbmnkeigmbbdaaGreat

/-
  CONTRACTS: math/bits.Len64, pack.spread, pack.gather.
-/
namespace Go.Proofs.YthbmnkeigmbbdaaGreat
open Go.RowKit
namespace PackBytes
open PM

end PackBytes
end Go.Proofs.YthbmnkeigmbbdaaGreat

/-
  PLAIN: what bytes begin with (a number, a text, a frame), and why not.
-/
namespace Go.Proofs.YthbmnkeigmbbdaaGreat
namespace PM

/-- The head of a frame: its size and its check. -/
def sizeOf4 (l : List UInt8) : Nat := val (l.take 4)
def chk (l : List UInt8) : List UInt8 := be 2 (crc l)
def tfW (l : List UInt8) : Nat :=
  if l.length < 4 then 3 else if 65536 < sizeOf4 l then 2 else if l.length < 6 + sizeOf4 l then 3
  else if (l.drop 4).take 2 ≠ chk (l.take 4 ++ (l.drop 6).take (sizeOf4 l)) then 4 else 0
def tfP (l : List UInt8) : List UInt8 := if tfW l = 0 then (l.drop 6).take (sizeOf4 l) else []
def tfR (l : List UInt8) : List UInt8 := if tfW l = 0 then l.drop (6 + sizeOf4 l) else []
def txt (l : List UInt8) : List UInt8 := num l.length ++ l
/-- The next byte is not 0, if one is wanted and there. -/
def Fine (s : ByteArray) : Prop := ∀ hp : 0 < s.size, 0 < s[0].toNat → ∀ h : 1 < s.size, s[1].toNat ≠ 0
end PM
end Go.Proofs.YthbmnkeigmbbdaaGreat

/-
  CONTRACTS: pack.TakeNumber and the document's own.
-/
namespace Go.Proofs.YthbmnkeigmbbdaaGreat
open Go.RowKit
namespace PackTakeNum
open PM PackBytes

end PackTakeNum
end Go.Proofs.YthbmnkeigmbbdaaGreat

/-
  CONTRACTS: the document's own TakeNumber.
-/
namespace Go.Proofs.YthbmnkeigmbbdaaGreat
open Go.RowKit
namespace PackTakeRef
open PM PackBytes PackTakeNum

end PackTakeRef
end Go.Proofs.YthbmnkeigmbbdaaGreat

/-
  MEMORY: an append of a row that the call owns, nil or not, to a row that it owns; a slice literal of one cell.
-/
namespace Go.Proofs.YthbmnkeigmbbdaaGreat
open Go.RowKit
namespace Mem

section
variable {P : Program} {w : World}
end
end Mem
end Go.Proofs.YthbmnkeigmbbdaaGreat

/-
  CONTRACTS: the document's own Number hands back the number's bytes.
-/
namespace Go.Proofs.YthbmnkeigmbbdaaGreat
open Go.RowKit
namespace PackRefNum
open PM PackBytes

def enc (b : UInt8) : Value := .int .u8 (b.toNat : Nat)
end PackRefNum
end Go.Proofs.YthbmnkeigmbbdaaGreat

/-
  CONTRACTS: pack.Text, pack.TakeText and the document's own.
-/
namespace Go.Proofs.YthbmnkeigmbbdaaGreat
open Go.RowKit
namespace PackText
open PM PackBytes PackTakeNum PackTakeRef PackRefNum

theorem bdN {B : Nat} {a w : World} (h : Below B a w) (n : Nat) : Below B a (w.drewN n) := ⟨h.os, h.tape, h.output, h.size, h.block⟩

end PackText
end Go.Proofs.YthbmnkeigmbbdaaGreat

/-
  CONTRACTS: pack.Sum and the document's own Sum hand back the check of any bytes; the world is as it was.
-/
namespace Go.Proofs.YthbmnkeigmbbdaaGreat
open Go.RowKit
namespace PackSum
open PM

end PackSum
end Go.Proofs.YthbmnkeigmbbdaaGreat

/-
  CONTRACTS: pack.check, the document's own check and four; the makers of frames.
-/
namespace Go.Proofs.YthbmnkeigmbbdaaGreat
open Go.RowKit
namespace PackChk
open PM PackBytes PackTakeNum PackTakeRef PackRefNum PackText

def chkB (s : ByteArray) : ByteArray := bs (chk s.data.toList)
end PackChk
end Go.Proofs.YthbmnkeigmbbdaaGreat

/-
  CONTRACTS: pack.Frame and the document's own.
-/
namespace Go.Proofs.YthbmnkeigmbbdaaGreat
open Go.RowKit
namespace PackFrame
open PM PackBytes PackTakeNum PackTakeRef PackRefNum PackText PackChk

end PackFrame
end Go.Proofs.YthbmnkeigmbbdaaGreat

/-
  CONTRACTS: pack.TakeFrame and the document's own.
-/
namespace Go.Proofs.YthbmnkeigmbbdaaGreat
open Go.RowKit
namespace PackTakeFr
open PM PackBytes PackTakeNum PackTakeRef PackRefNum PackText PackChk PackFrame

end PackTakeFr
end Go.Proofs.YthbmnkeigmbbdaaGreat

/-
  PLAIN: what is taken of what was made; what is cut short.
-/
namespace Go.Proofs.YthbmnkeigmbbdaaGreat
namespace PM

end PM
end Go.Proofs.YthbmnkeigmbbdaaGreat

/-
  A TAKER OF PARTS: parts.Of, Framed, Number, Upto, Done.
-/
namespace Go.Proofs.YthbmnkeigmbbdaaGreat
open Go.RowKit
namespace Hd
open PM
/-- Block g is a taker: the bytes l are left; whether something was wrong. -/
def Tk (w : World) (g : Nat) (l : List UInt8) (b : Bool) : Prop := ∃ T, w.heap[g]? = some (.cells #[.string (bs l), .bool b] T (0, 0))
theorem Tk.cells {w : World} {g : Nat} {l : List UInt8} {b : Bool} (h : Tk w g l b) : w.cell? ⟨g, 0, none⟩ = some (.string (bs l)) ∧ w.cell? ⟨g, 1, none⟩ = some (.bool b) ∧ w.frozen? ⟨g, 0, none⟩ = false ∧ w.frozen? ⟨g, 1, none⟩ = false := by
  obtain ⟨T, h⟩ := h
  refine ⟨?_, ?_, ?_, ?_⟩ <;> simp [World.cell?, World.frozen?, h]
theorem Tk.lt {w : World} {g : Nat} {l : List UInt8} {b : Bool} (h : Tk w g l b) : g < w.heap.size := by
  rcases Nat.lt_or_ge g w.heap.size with hlt | hge
  · exact hlt
  · obtain ⟨T, h⟩ := h; rw [Array.getElem?_eq_none hge] at h; cases h
theorem Tk.set {w : World} {g : Nat} {l m : List UInt8} {b c : Bool} (h : Tk w g l b) : Tk ((w.setCell ⟨g, 0, none⟩ (.string (bs m))).setCell ⟨g, 1, none⟩ (.bool c)) g m c := by
  obtain ⟨T, h⟩ := h
  exact ⟨T, by simp [World.setCell, Array.getElem?_modify, h]⟩
theorem Tk.below {w w' : World} {B g : Nat} {l : List UInt8} {b : Bool} (h : Tk w g l b) (hb : Below B w w') (hg : g < B) : Tk w' g l b := h.imp fun _ h => (hb.block g hg).trans h
theorem Tk.made (T : TypeId) (w : World) (l : List UInt8) (b : Bool) : Tk (w.alloc (.cells #[.string (bs l), .bool b] T)) w.heap.size l b := ⟨T, heap_alloc_new w _⟩
/-- Only block g, and what is new, has turned. -/
def Only (g : Nat) (w w' : World) : Prop := w.grownBy w' (some g)
theorem Only.refl (g : Nat) (w : World) : Only g w w := ⟨rfl, rfl, rfl, Nat.le_refl _, fun _ _ _ => rfl⟩
theorem Only.of_below {g : Nat} {w w' : World} (h : Below w.heap.size w w') : Only g w w' := ⟨h.os, h.tape, h.output, h.size, fun i hi _ => h.block i hi⟩
theorem Only.set {g : Nat} {a w : World} (h : Only g a w) (o : Nat) (u : Value) : Only g a (w.setCell ⟨g, o, none⟩ u) :=
  ⟨h.os, h.tape, h.output, by simpa [World.setCell] using h.size, fun i hi hne => (Below.heap_setCell w ⟨g, o, none⟩ u i (by rintro rfl; exact hne rfl)).trans (h.block i hi hne)⟩
theorem Only.trans {g : Nat} {a b c : World} (h : Only g a b) (k : Only g b c) : Only g a c :=
  ⟨k.os.trans h.os, k.tape.trans h.tape, k.output.trans h.output, Nat.le_trans h.size k.size, fun i hi hne => (k.block i (Nat.lt_of_lt_of_le hi h.size) hne).trans (h.block i hi hne)⟩
theorem Only.below {g B : Nat} {w w' : World} (h : Only g w w') (hB : B ≤ w.heap.size) (hg : B ≤ g) : Below B w w' := (Below.refl B w).grown h hB (fun k e => by injection e with e; omega)

theorem one_result {fn : Func} {p : Tmp} {ty : TypeId} (h : fn.results = #[.cell p ty]) (tmps : Array Value) (P : Program) (w : World) :
    (results fn tmps).run P w = ((asAddr (tmps.getD p undef)).run P w).andThen fun a w₁ => (loadVar ty a).run P w₁ := by
  simp [results, h]
/-- What a frame that is all of some bytes holds; whether it is none. -/
def fmL (l : List UInt8) : List UInt8 := if tfW l = 0 then (if tfR l = [] then tfP l else []) else []
def fmB (l : List UInt8) : Bool := if tfW l = 0 then (if tfR l = [] then false else true) else true
def FramedIs (l : List UInt8) (e : Ending) : Prop := e = .returned (.agg #[.string (bs (fmL l)), .bool (fmB l)])
theorem FramedIs.bad {l : List UInt8} (h : fmL l = [] ∧ fmB l = true) : FramedIs l (.returned (.agg #[.string ⟨#[]⟩, .bool true])) := by unfold FramedIs; rw [h.1, h.2]; rfl
theorem FramedIs.ok {l : List UInt8} (h : fmL l = tfP l ∧ fmB l = false) : FramedIs l (.returned (.agg #[.string (bs (tfP l)), .bool false])) := by unfold FramedIs; rw [h.1, h.2]
end Hd
end Go.Proofs.YthbmnkeigmbbdaaGreat

/-
  A MAKER OF PARTS: parts.Maker's Number, Text, Bytes.
-/
namespace Go.Proofs.YthbmnkeigmbbdaaGreat
open Go.RowKit
namespace Hd
open PM
/-- Nothing has turned but block g, and rows of bytes from B on. -/
def Fr (B g : Nat) (w w' : World) : Prop := Below B w w' ∧ Lib.OthersKept 5 (some g) w w'
theorem Fr.refl (B g : Nat) (w : World) : Fr B g w w := ⟨Below.refl B w, Lib.OthersKept.refl _ _ w⟩
theorem Fr.trans {B g : Nat} {a b c : World} (h : Fr B g a b) (k : Fr B g b c) : Fr B g a c := ⟨h.1.trans k.1, h.2.trans k.2⟩
theorem kept_of_below {e : TypeId} {b : Option Nat} {w w' : World} (h : Below w.heap.size w w') : Lib.OthersKept e b w w' := by
  intro k o hk _ _
  have hlt : k < w.heap.size := (Array.getElem?_eq_some_iff.1 hk).1
  exact (h.block k hlt).trans hk
theorem Fr.of_below {B g : Nat} {w w' : World} (h : Below w.heap.size w w') (hB : B ≤ w.heap.size) : Fr B g w w' := ⟨h.mono hB, kept_of_below h⟩
theorem Fr.keep {B g b : Nat} {w w' : World} {cs : Array Value} {T : TypeId} (h : Fr B g w w') (hk : w.heap[b]? = some (.cells cs T (0, 0))) (hb : b ≠ g) (hT : T ≠ 5) : w'.heap[b]? = some (.cells cs T (0, 0)) :=
  h.2 b _ hk (by intro e; exact hb (Option.some.inj e)) (by intro c fz e; injection e with e1 e2; exact hT e2)
theorem own_keep {w w' : World} {base : Nat} {e : TypeId} {size n : Nat} {v : Value} {xs : List Value} (h : w.ownsRow base e size v n xs) (hb : Below w.heap.size w w') : w'.ownsRow base e size v n xs := by
  refine ⟨h.1, ?_⟩
  rcases h.2 with h2 | ⟨g, cap, cur, h3, h4, h5, h6⟩
  · exact .inl h2
  · exact .inr ⟨g, cap, cur, h3, h4, (hb.block g ((Array.getElem?_eq_some_iff.1 h5).1)).trans h5, h6⟩
end Hd
end Go.Proofs.YthbmnkeigmbbdaaGreat

/-
  WHAT IS TOLD, as bytes: made and taken by cluster and order.
-/
namespace Go.Proofs.YthbmnkeigmbbdaaGreat
open Go.RowKit
namespace Hd
open PM
/-- A box of two cells. -/
def Bx2 (w : World) (B : Nat) (a b : Value) : Prop := ∃ T, w.heap[B]? = some (.cells #[a, b] T (0, 0))
theorem Bx2.lt {w : World} {B : Nat} {a b : Value} (h : Bx2 w B a b) : B < w.heap.size := by
  obtain ⟨T, h⟩ := h
  exact (Array.getElem?_eq_some_iff.1 h).1
theorem Bx2.cells {w : World} {B : Nat} {a b : Value} (h : Bx2 w B a b) : w.cell? ⟨B, 0, none⟩ = some a ∧ w.cell? ⟨B, 1, none⟩ = some b := by
  obtain ⟨T, h⟩ := h
  refine ⟨?_, ?_⟩ <;> simp [World.cell?, h]
theorem Bx2.fz {w : World} {B : Nat} {a b : Value} (h : Bx2 w B a b) : w.frozen? ⟨B, 0, none⟩ = false ∧ w.frozen? ⟨B, 1, none⟩ = false := by
  obtain ⟨T, h⟩ := h
  refine ⟨?_, ?_⟩ <;> simp [World.frozen?, h]
theorem Bx2.set0 {w : World} {B : Nat} {a b : Value} (h : Bx2 w B a b) (u : Value) : Bx2 (w.setCell ⟨B, 0, none⟩ u) B u b := by obtain ⟨T, h⟩ := h; exact ⟨T, by simp [World.setCell, Array.getElem?_modify, h]⟩
theorem Bx2.set1 {w : World} {B : Nat} {a b : Value} (h : Bx2 w B a b) (u : Value) : Bx2 (w.setCell ⟨B, 1, none⟩ u) B a u := by obtain ⟨T, h⟩ := h; exact ⟨T, by simp [World.setCell, Array.getElem?_modify, h]⟩
theorem Bx2.below {w w' : World} {B : Nat} {a b : Value} (h : Bx2 w B a b) (hb : Below w.heap.size w w') : Bx2 w' B a b := by
  have hl := h.lt
  obtain ⟨T, h⟩ := h
  exact ⟨T, (hb.block B hl).trans h⟩
theorem Bx2.only {w w' : World} {B g : Nat} {a b : Value} (h : Bx2 w B a b) (ho : Only g w w') (hg : B ≠ g) : Bx2 w' B a b := by
  have hl := h.lt
  obtain ⟨T, h⟩ := h
  exact ⟨T, (ho.block B hl (by intro e; injection e with e; exact hg e)).trans h⟩
theorem Bx2.made (w : World) (a b : Value) (T : TypeId) : Bx2 (w.alloc (.cells #[a, b] T)) w.heap.size a b := ⟨T, heap_alloc_new w _⟩
theorem Tk.far {w : World} {g : Nat} {l : List UInt8} {b : Bool} (h : Tk w g l b) {B : Nat} (hg : g ≠ B) (o : Nat) (u : Value) : Tk (w.setCell ⟨B, o, none⟩ u) g l b := by
  obtain ⟨T, h⟩ := h
  refine ⟨T, ?_⟩
  rw [Below.heap_setCell w ⟨B, o, none⟩ u g hg]
  exact h
theorem Only.put2 {w w' : World} {g B : Nat} (h : Only g w w') (hB : w.heap.size ≤ B) (o : Nat) (u : Value) : Only g w (w'.setCell ⟨B, o, none⟩ u) := by
  refine ⟨h.os, h.tape, h.output, ?_, ?_⟩
  · have := h.size; simpa [World.setCell] using this
  · intro i hi hn
    rw [Below.heap_setCell w' ⟨B, o, none⟩ u i (by show i ≠ B; omega)]
    exact h.block i hi hn
/-- Where the taking stands: what is left, the box of what was taken, the box of the result. -/
structure Ts (w0 : World) (g : Nat) (l : List UInt8) (b : Bool) (a0 a1 r0 r1 : Value) (x : World) : Prop where
  tk : Tk x g l b
  bx : Bx2 x (w0.heap.size + 1) a0 a1
  rb : Bx2 x w0.heap.size r0 r1
  on : Only g w0 x
  lt : g < w0.heap.size
theorem Ts.go {w0 : World} {g : Nat} {l l2 : List UInt8} {b b2 : Bool} {a0 a1 r0 r1 : Value} {x x' : World} (h : Ts w0 g l b a0 a1 r0 r1 x) (ht : Tk x' g l2 b2) (ho : Only g x x') : Ts w0 g l2 b2 a0 a1 r0 r1 x' :=
  ⟨ht, h.bx.only ho (by have := h.lt; omega), h.rb.only ho (by have := h.lt; omega), h.on.trans ho, h.lt⟩
theorem Bx2.apart {w : World} {B p : Nat} {a b : Value} (h : Bx2 w B a b) (hp : p ≠ B) (o : Nat) (u : Value) : Bx2 (w.setCell ⟨p, o, none⟩ u) B a b :=
  h.imp fun _ h => (Below.heap_setCell w ⟨p, o, none⟩ u B (by rintro rfl; exact hp rfl)).trans h
theorem Ts.p0 {w0 : World} {g : Nat} {l : List UInt8} {b : Bool} {a0 a1 r0 r1 : Value} {x : World} (h : Ts w0 g l b a0 a1 r0 r1 x) (u : Value) : Ts w0 g l b u a1 r0 r1 (x.setCell ⟨w0.heap.size + 1, 0, none⟩ u) :=
  ⟨h.tk.far (by have := h.lt; omega) 0 u, h.bx.set0 u, h.rb.apart (by omega) 0 u, h.on.put2 (by omega) 0 u, h.lt⟩
theorem Ts.p1 {w0 : World} {g : Nat} {l : List UInt8} {b : Bool} {a0 a1 r0 r1 : Value} {x : World} (h : Ts w0 g l b a0 a1 r0 r1 x) (u : Value) : Ts w0 g l b a0 u r0 r1 (x.setCell ⟨w0.heap.size + 1, 1, none⟩ u) :=
  ⟨h.tk.far (by have := h.lt; omega) 1 u, h.bx.set1 u, h.rb.apart (by omega) 1 u, h.on.put2 (by omega) 1 u, h.lt⟩
theorem Ts.q0 {w0 : World} {g : Nat} {l : List UInt8} {b : Bool} {a0 a1 r0 r1 : Value} {x : World} (h : Ts w0 g l b a0 a1 r0 r1 x) (u : Value) : Ts w0 g l b a0 a1 u r1 (x.setCell ⟨w0.heap.size, 0, none⟩ u) :=
  ⟨h.tk.far (by have := h.lt; omega) 0 u, h.bx.apart (by omega) 0 u, h.rb.set0 u, h.on.put2 (by omega) 0 u, h.lt⟩
theorem Ts.q1 {w0 : World} {g : Nat} {l : List UInt8} {b : Bool} {a0 a1 r0 r1 : Value} {x : World} (h : Ts w0 g l b a0 a1 r0 r1 x) (u : Value) : Ts w0 g l b a0 a1 r0 u (x.setCell ⟨w0.heap.size, 1, none⟩ u) :=
  ⟨h.tk.far (by have := h.lt; omega) 1 u, h.bx.apart (by omega) 1 u, h.rb.set1 u, h.on.put2 (by omega) 1 u, h.lt⟩
theorem Ts.made {w : World} {g : Nat} {l : List UInt8} {b : Bool} (h : Tk w g l b) : Ts w g l b (.int .i64 0) (.string ⟨#[]⟩) (.int .i64 0) (.string ⟨#[]⟩) ((w.alloc (.cells #[.int .i64 0, .string ⟨#[]⟩] 50)).alloc (.cells #[.int .i64 0, .string ⟨#[]⟩] 50)) := by
  have hl := h.lt
  have h1 : Below w.heap.size w (w.alloc (.cells #[.int .i64 0, .string ⟨#[]⟩] 50)) := (Below.refl _ _).alloc (Nat.le_refl _) _
  have h2 : Below (w.alloc (.cells #[.int .i64 0, .string ⟨#[]⟩] 50)).heap.size (w.alloc (.cells #[.int .i64 0, .string ⟨#[]⟩] 50)) ((w.alloc (.cells #[.int .i64 0, .string ⟨#[]⟩] 50)).alloc (.cells #[.int .i64 0, .string ⟨#[]⟩] 50)) := (Below.refl _ _).alloc (Nat.le_refl _) _
  have h3 := h1.trans (h2.mono h1.size)
  refine ⟨h.below h3 hl, ?_, (Bx2.made w _ _ _).below h2, Only.of_below h3, hl⟩
  have := Bx2.made (w.alloc (.cells #[.int .i64 0, .string ⟨#[]⟩] 50)) (.int .i64 0) (.string ⟨#[]⟩) 50
  rw [World.size_alloc] at this
  exact this
end Hd
end Go.Proofs.YthbmnkeigmbbdaaGreat
