/-
  ARGUMENTS: what is told, that came in.
-/
import Derived.Test.YthlchdlgafincaaOrdBack
import Derived.Test.YthlchdlgafincaaRgA
import Derived.OpenShut
namespace Go.Proofs.Ythlchdlgafincaa
open Go.RowKit Go.WideShapes Go.ChangeShapes
namespace Hd
open PM Hc
/-- Something told that came in. -/
def ToldArg (v : Value) (p : Int × ByteArray) : Prop := v = .agg #[.int .i64 p.1, .string p.2] ∧ p.2.size ≤ maxLen ∧ Rg.In64 p.1
section
variable {H : Type} {enc : TypeId × Value → H} {w : World} {v : Value} {d : DataW H} {ps : List MemPlace} {base : Nat}
set_option maxRecDepth 100000 in
theorem told_of (ho : Value.okWide Try.prog w .any base 44 v) (hk : DataW.Trod enc Try.prog w 0 (fun _ => true) true 44 v d ps) : ∃ p, ToldArg v p := by
  obtain ⟨cs, rfl, hcs⟩ := okWide_struct Try.underlying44 ho
  obtain ⟨fuel, hf⟩ := hk
  have hu := Try.underlying44
  obtain ⟨xs, m, -, -, hl, hlen, hf⟩ := DataW.trod_struct hu hf
  rcases cs with ⟨l⟩
  match xs, hlen with
  | [y0, y1], _ =>
    have hl2 : l.length = 2 := hl
    match l, hl2 with
    | [c0, c1], _ =>
      have t0 : DataW.trod enc Try.prog w 0 (fun _ => true) true m 34 [c0] = some y0 := hf 0 _ rfl
      have t1 : DataW.trod enc Try.prog w 0 (fun _ => true) true m 9 [c1] = some y1 := hf 1 _ rfl
      obtain ⟨s0, e0, -, z0⟩ := DataW.trod_int Try.underlying34 t0
      obtain ⟨s1, e1, -, z1⟩ := DataW.trod_string Try.underlying9 t1
      cases e0
      cases e1
      exact ⟨(s0, s1), rfl, z1, bounds_i64 z0⟩
end
theorem orderBackA (v u : Value) (C : Cd) (p : Int × ByteArray) (s : ByteArray) (w : World) (hc : CmdArg w v C) (ht : ToldArg u p) (hs : s.size ≤ maxLen) :
    Calls Try.prog 5 #[v, u, .string s] w fun e w' => e = .returned (.bool true) ∧ Below w.heap.size w w' := by
  obtain rfl := ht.1
  exact orderBack v C p.1 p.2 s w hc hs
end Hd
end Go.Proofs.Ythlchdlgafincaa
