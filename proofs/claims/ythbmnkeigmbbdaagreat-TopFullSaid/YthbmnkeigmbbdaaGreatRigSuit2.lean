/-
  WHO SUITS WHAT, second part: the document's within, both Suits, the examples, the law.
-/
import Derived.Test.YthbmnkeigmbbdaaGreatRigSuit
import Derived.Deep.RegionHeld3
namespace Go.Proofs.YthbmnkeigmbbdaaGreat
open Go.RowKit
namespace Rg
def suitB (ws ls ts bs : List Pr) : Bool := amongB ws ls && amongB ts bs
theorem Pairs.over {w w' : World} {v : Value} {ps : List Pr} (h : Pairs w w.heap.size v ps) (hb : Below w.heap.size w w') : Pairs w' w'.heap.size v ps := (h.keep hb).more hb.size
set_option maxHeartbeats 800000 in
theorem suits_any (xn xg xa : ByteArray) (x0 x1 x2 xr : Int) (xwa xba : Option Addr) (xwn xwc xbn xbc : Nat) (yn : ByteArray) (y0 y1 y2 : Int) (yla yta : Option Addr) (yln ylc ytn ytc : Nat) (ws bs ls ts : List Pr) (w : World) (h1 : Pairs w w.heap.size (.slice xwa xwn xwc) ws) (h2 : Pairs w w.heap.size (.slice xba xbn xbc) bs)
    (h3 : Pairs w w.heap.size (.slice yla yln ylc) ls) (h4 : Pairs w w.heap.size (.slice yta ytn ytc) ts) :
    Calls Tryz.prog 126 #[.agg #[.string xn, .int .i64 x0, .int .i64 x1, .int .i64 x2, .slice xwa xwn xwc, .slice xba xbn xbc, .string xg, .string xa, .int .i64 xr], .agg #[.string yn, .int .i64 y0, .int .i64 y1, .int .i64 y2, .slice yla yln ylc, .slice yta ytn ytc]] w fun e w' => e = .returned (.bool (suitB ws ls ts bs)) ∧ Below w.heap.size w w' := by
  have K1 : Hid (∀ x, Below w.heap.size w x → Calls Tryz.prog 184 #[.slice xwa xwn xwc, .slice yla yln ylc] x fun e w' => e = .returned (.bool (amongB ws ls)) ∧ Below x.heap.size x w') := fun x hb => among_any _ _ _ _ x (h1.over hb) (h3.over hb)
  have K2 : Hid (∀ x, Below w.heap.size w x → Calls Tryz.prog 184 #[.slice yta ytn ytc, .slice xba xbn xbc] x fun e w' => e = .returned (.bool (amongB ts bs)) ∧ Below x.heap.size x w') := fun x hb => among_any _ _ _ _ x (h4.over hb) (h2.over hb)
  have HN : Hid (suitB ws ls ts bs = (amongB ws ls && amongB ts bs)) := rfl
  clear h1 h2 h3 h4
  generalize amongB ws ls = r1 at *
  generalize amongB ts bs = r2 at *
  go_enter Tryz.func126, Tryz.ntmps126
  go_wp2_with fail
  refine (K1.out _ (two _ _ _)).mono ?_
  rintro e w1 ⟨rfl, hb⟩
  obtain ⟨c0, c1, hbw⟩ := boxed hb
  have HB := Lib.hid hbw
  clear hb hbw
  cases r1
  · go_wp2
    go_ret
    exact ⟨by rw [HN.out]; rfl, HB.out⟩
  · go_wp2_with fail
    refine (K2.out _ HB.out).mono ?_
    rintro e w2 ⟨rfl, hb⟩
    have HB2 := Lib.hid (HB.out.trans (hb.mono HB.out.size))
    clear hb
    go_wp2
    go_ret
    exact ⟨by rw [HN.out]; rfl, HB2.out⟩
theorem suits_at {xn xg xa : ByteArray} {x0 x1 x2 xr : Int} {xwa xba : Option Addr} {xwn xwc xbn xbc : Nat} {yn : ByteArray} {y0 y1 y2 : Int} {yla yta : Option Addr} {yln ylc ytn ytc : Nat} {ws bs ls ts : List Pr} {r : Bool} {w : World} (h : suitB ws ls ts bs = r) (h1 : Pairs w w.heap.size (.slice xwa xwn xwc) ws) (h2 : Pairs w w.heap.size (.slice xba xbn xbc) bs)
    (h3 : Pairs w w.heap.size (.slice yla yln ylc) ls) (h4 : Pairs w w.heap.size (.slice yta ytn ytc) ts) :
    Calls Tryz.prog 126 #[.agg #[.string xn, .int .i64 x0, .int .i64 x1, .int .i64 x2, .slice xwa xwn xwc, .slice xba xbn xbc, .string xg, .string xa, .int .i64 xr], .agg #[.string yn, .int .i64 y0, .int .i64 y1, .int .i64 y2, .slice yla yln ylc, .slice yta ytn ytc]] w fun e w' => e = .returned (.bool r) ∧ Below w.heap.size w w' := by
  subst h
  exact suits_any xn xg xa x0 x1 x2 xr xwa xba xwn xwc xbn xbc yn y0 y1 y2 yla yta yln ylc ytn ytc ws bs ls ts w h1 h2 h3 h4
end Rg
end Go.Proofs.YthbmnkeigmbbdaaGreat
