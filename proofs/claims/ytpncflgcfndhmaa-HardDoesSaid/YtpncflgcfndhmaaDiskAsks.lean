/-
  LAW: DiskAsks.
-/
import Derived.Test.YtpncflgcfndhmaaDiskNm
import Derived.Test.YtpncflgcfndhmaaDiskArg
import Derived.Test.YtpncflgcfndhmaaArg
import Derived.Deep.RegionHeld3
namespace Go.Proofs.Ytpncflgcfndhmaa
open Go.RowKit Go.Lib Go.Sort
namespace Dk
theorem St.made {w : World} {a : Option Addr} {c : Nat} {dn : Bool} {fu : Int} {fs : List Fl} (h : Files w w.heap.size (.slice a fs.length c) fs) :
    St w w.heap.size (w.alloc (.cells #[.slice a fs.length c, .bool dn, .int .i64 fu] 24)) (.slice a fs.length c) dn fu fs :=
  ⟨Nat.le_refl _, by simp, (Below.refl _ _).alloc (Nat.le_refl _) _, Dx.made _ _ _ _, h.al _⟩
theorem St.fill {w x x' : World} {B : Nat} {a : Option Addr} {c : Nat} {dn : Bool} {fu : Int} {fs : List Fl} (h : St w B x (.slice a fs.length c) dn fu fs) (hb : Below x.heap.size x x') :
    St w B x' (.slice a fs.length c) dn fu fs ∧ x'.cell? ⟨B, 0, none⟩ = some (.slice a fs.length c) ∧ x'.cell? ⟨B, 1, none⟩ = some (.bool dn) ∧ x'.cell? ⟨B, 2, none⟩ = some (.int .i64 fu) :=
  ⟨h.keep hb, (h.keep hb).dx.d0, (h.keep hb).dx.d1, (h.keep hb).dx.d2⟩
theorem St.fillH {w x x' : World} {B : Nat} {a : Option Addr} {c : Nat} {dn : Bool} {fu : Int} {fs : List Fl} (h : St w B x (.slice a fs.length c) dn fu fs) (hb : Below x.heap.size x x') :
    x'.cell? ⟨B, 0, none⟩ = some (.slice a fs.length c) ∧ x'.cell? ⟨B, 1, none⟩ = some (.bool dn) ∧ x'.cell? ⟨B, 2, none⟩ = some (.int .i64 fu) ∧ Hid (Below x.heap.size x x') :=
  ⟨(h.keep hb).dx.d0, (h.keep hb).dx.d1, (h.keep hb).dx.d2, hb⟩
theorem strs_at {w : World} {base : Nat} {e : TypeId} {v : Value} {ss : List ByteArray} (h : w.ownsRow base e 1 v ss.length (ss.map .string)) (hn : 0 < ss.length) :
    ∃ g cap, v = .slice (some ⟨g, 0, none⟩) ss.length cap ∧ g < w.heap.size ∧ ∀ i (hi : i < ss.length), w.cell? ⟨g, i, none⟩ = some (.string ss[i]) := by
  obtain ⟨g, cap, rfl, -, hg⟩ := Arg.own_form h hn
  refine ⟨g, cap, rfl, hg, fun i hi => ?_⟩
  have := h.cells rfl i (.string ss[i]) (by rw [List.getElem?_map, List.getElem?_eq_getElem hi]; rfl)
  rw [Addr.add_lit] at this
  simpa using this

end Dk
end Go.Proofs.Ytpncflgcfndhmaa
