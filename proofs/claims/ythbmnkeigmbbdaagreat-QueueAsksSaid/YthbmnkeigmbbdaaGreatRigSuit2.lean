/-
  WHO SUITS WHAT, second part: the document's within, both Suits, the examples, the law.
-/
import Derived.Test.YthbmnkeigmbbdaaGreatRigSuit
import Derived.Deep.RegionHeld3
namespace Go.Proofs.YthbmnkeigmbbdaaGreat
open Go.RowKit
namespace Rg
set_option maxRecDepth 100000 in
set_option maxHeartbeats 4000000 in
theorem within_ref (v vo : Value) (l o : List Pr) (w : World) (hv : Pairs w w.heap.size v l) (ho : Pairs w w.heap.size vo o) :
    Calls Tryz.prog 200 #[v, vo] w fun e w' => e = .returned (.bool (amongB l o)) ∧ Below w.heap.size w w' := by
  obtain ⟨a, c, rfl, hl, -, hc⟩ := hv
  obtain ⟨a2, c2, rfl, hl2, -, hc2⟩ := ho
  have HC := Lib.hid hc
  have HC2 := Lib.hid hc2
  clear hc hc2
  have gf := guard_pair
  go_enter Tryz.func200, Tryz.ntmps200
  go_wp2
  go_loopg [12] l.length (fun g i wx => ∃ k : Nat, k + g = l.length ∧ i = .int .i64 k ∧ Aside ((l.take k).all (isIn o) = true) ∧ Below w.heap.size w wx)
  case atStart => exact ⟨0, by omega, rfl, by show _ = _; simp, Below.refl _ _⟩
  case round =>
    obtain ⟨k, hkg, rfl, HA, hbx⟩ := hrel
    have HX := Lib.hid hbx
    cases gk with
    | zero =>
      obtain rfl : k = l.length := by omega
      have HN : Hid (amongB l o = true) := by
        have := HA.out
        rw [List.take_length] at this
        exact this
      clear hkg hbx
      go_wp2
      go_ret
      exact ⟨by rw [HN.out]; rfl, HX.out⟩
    | succ g =>
      have hlk : k < l.length := by omega
      have HG := Lib.hid hkg
      have HS := Lib.hid (all_snoc (isIn o) l k hlk)
      have HM := Lib.hid (among_miss l o k hlk)
      obtain ⟨b, off, rfl, hblt, hcc⟩ := HC.out (by omega)
      obtain ⟨d1, d2⟩ := hcc k hlk
      have e1 := (hbx.cell (by exact hblt)).trans d1
      have e2 := (hbx.cell (by exact hblt)).trans d2
      have hszr := hbx.size
      clear hkg hbx d1 d2 hcc
      generalize l[k] = p at *
      rcases p with ⟨pk, pv⟩
      obtain ⟨wo, rfl⟩ : ∃ wo : World, wo = wr := ⟨_, rfl⟩
      go_wp2
      go_loopg [7, 18] o.length (fun g2 fd j wy => ∃ (m : Nat) (fb : Bool), m + g2 = o.length ∧ j = .int .i64 m ∧ fd = .bool fb ∧ Aside ((o.take m).any (eqP ⟨pk, pv⟩) = fb) ∧ Below (wo.heap.size + 1) (wo.alloc (.cells #[.string pk, .string pv] 89)) wy)
      case atStart => exact ⟨0, false, by omega, rfl, rfl, by show _ = _; simp, Below.refl _ _⟩
      case round =>
        obtain ⟨m, fb, hmg, rfl, rfl, HB, hby⟩ := hrel
        have p0 : wr.cell? ⟨wo.heap.size, 0, none⟩ = some (.string pk) := by rw [hby.cell (by simp)]; simp [go_sem]
        have p1 : wr.cell? ⟨wo.heap.size, 1, none⟩ = some (.string pv) := by rw [hby.cell (by simp)]; simp [go_sem]
        have hszy := hby.size
        simp at hszy
        have HY := Lib.hid hby
        have HW : Hid (Below w.heap.size w wr) := (HX.out.alloc hszr _).trans (hby.mono (by omega))
        cases gk with
        | zero =>
          obtain rfl : m = o.length := by omega
          have HI : Hid (isIn o ⟨pk, pv⟩ = fb) := by
            have := HB.out
            rw [List.take_length] at this
            exact this
          clear hmg hby
          cases fb
          · have HN := Lib.hid (HM.out HI.out)
            go_wp2
            go_ret
            exact ⟨by rw [HN.out]; rfl, HW.out⟩
          · go_wp2
            go_roundg g
            case measure => omega
            case rel => exact ⟨k + 1, by have := HG.out; omega, by go_num, by show _ = _; rw [HS.out, HA.out, HI.out]; rfl, HW.out⟩
        | succ g2 =>
          have hlm : m < o.length := by omega
          have HG2 := Lib.hid hmg
          have HS2 := Lib.hid (any_snoc (eqP ⟨pk, pv⟩) o m hlm)
          obtain ⟨b2, off2, rfl, hblt2, hcc2⟩ := HC2.out (by omega)
          obtain ⟨d1, d2⟩ := hcc2 m hlm
          have q1 := (HW.out.cell (by exact hblt2)).trans d1
          have q2 := (HW.out.cell (by exact hblt2)).trans d2
          clear hmg hby d1 d2 hcc2
          generalize o[m] = q at *
          rcases q with ⟨qk, qv⟩
          have hne : wo.heap.size ≠ wr.heap.size := by omega
          have r0 : ∀ o, (wr.alloc o).cell? ⟨wo.heap.size, 0, none⟩ = some (.string pk) := fun o => by rw [World.cell?_alloc_lt _ _ _ (by show wo.heap.size < _; omega)]; exact p0
          have r1 : ∀ o, (wr.alloc o).cell? ⟨wo.heap.size, 1, none⟩ = some (.string pv) := fun o => by rw [World.cell?_alloc_lt _ _ _ (by show wo.heap.size < _; omega)]; exact p1
          have hq := eql_pair pk pv qk qv
          generalize eqP ⟨pk, pv⟩ ⟨qk, qv⟩ = eb at *
          cases fb
          · go_wp2
            go_roundg g2
            case measure => omega
            case rel => exact ⟨m + 1, eb, by have := HG2.out; omega, by go_num, by simp, by show _ = _; rw [HS2.out, HB.out]; rfl, HY.out.alloc (by omega) _⟩
          · go_wp2
            go_roundg g2
            case measure => omega
            case rel => exact ⟨m + 1, true, by have := HG2.out; omega, by go_num, by simp, by show _ = _; rw [HS2.out, HB.out]; rfl, HY.out.alloc (by omega) _⟩

def suitB (ws ls ts bs : List Pr) : Bool := amongB ws ls && amongB ts bs
theorem Pairs.over {w w' : World} {v : Value} {ps : List Pr} (h : Pairs w w.heap.size v ps) (hb : Below w.heap.size w w') : Pairs w' w'.heap.size v ps := (h.keep hb).more hb.size
set_option maxHeartbeats 800000 in
theorem suits_any (xn xg xa : ByteArray) (x0 x1 x2 xr : Int) (xwa xba : Option Addr) (xwn xwc xbn xbc : Nat) (yn : ByteArray) (y0 y1 y2 : Int) (yla yta : Option Addr) (yln ylc ytn ytc : Nat) (ws bs ls ts : List Pr) (w : World) (h1 : Pairs w w.heap.size (.slice xwa xwn xwc) ws) (h2 : Pairs w w.heap.size (.slice xba xbn xbc) bs)
    (h3 : Pairs w w.heap.size (.slice yla yln ylc) ls) (h4 : Pairs w w.heap.size (.slice yta ytn ytc) ts) :
    Calls Tryz.prog 126 #[.agg #[.string xn, .int .i64 x0, .int .i64 x1, .int .i64 x2, .slice xwa xwn xwc, .slice xba xbn xbc, .string xg, .string xa, .int .i64 xr], .agg #[.string yn, .int .i64 y0, .int .i64 y1, .int .i64 y2, .slice yla yln ylc, .slice yta ytn ytc]] w fun e w' => e = .returned (.bool (suitB ws ls ts bs)) ∧ Below w.heap.size w w' := by
  have K1 : Hid (∀ x, Below w.heap.size w x → Calls Tryz.prog 184 #[.slice xwa xwn xwc, .slice yla yln ylc] x fun e w' => e = .returned (.bool (amongB ws ls)) ∧ Below x.heap.size x w') := fun x hb => among_any _ _ _ _ x (h1.over hb) (h3.over hb)
  have K2 : Hid (∀ x, Below w.heap.size w x → Calls Tryz.prog 184 #[.slice yta ytn ytc, .slice xba xbn xbc] x fun e w' => e = .returned (.bool (amongB ts bs)) ∧ Below x.heap.size x w') := fun x hb => among_any _ _ _ _ x (h4.over hb) (h2.over hb)
  have HN : Hid (suitB ws ls ts bs = (amongB ws ls && amongB ts bs)) := rfl
  clear h1 h2 h3 h4
  generalize amongB ws ls = r1 at *
  generalize amongB ts bs = r2 at *
  go_enter Tryz.func126, Tryz.ntmps126
  go_wp2_with fail
  refine (K1.out _ (two _ _ _)).mono ?_
  rintro e w1 ⟨rfl, hb⟩
  obtain ⟨c0, c1, hbw⟩ := boxed hb
  have HB := Lib.hid hbw
  clear hb hbw
  cases r1
  · go_wp2
    go_ret
    exact ⟨by rw [HN.out]; rfl, HB.out⟩
  · go_wp2_with fail
    refine (K2.out _ HB.out).mono ?_
    rintro e w2 ⟨rfl, hb⟩
    have HB2 := Lib.hid (HB.out.trans (hb.mono HB.out.size))
    clear hb
    go_wp2
    go_ret
    exact ⟨by rw [HN.out]; rfl, HB2.out⟩
set_option maxHeartbeats 800000 in
theorem suits_ref (xn xg xa : ByteArray) (x0 x1 x2 xr : Int) (xwa xba : Option Addr) (xwn xwc xbn xbc : Nat) (yn : ByteArray) (y0 y1 y2 : Int) (yla yta : Option Addr) (yln ylc ytn ytc : Nat) (ws bs ls ts : List Pr) (w : World) (h1 : Pairs w w.heap.size (.slice xwa xwn xwc) ws) (h2 : Pairs w w.heap.size (.slice xba xbn xbc) bs)
    (h3 : Pairs w w.heap.size (.slice yla yln ylc) ls) (h4 : Pairs w w.heap.size (.slice yta ytn ytc) ts) :
    Calls Tryz.prog 154 #[.agg #[.string xn, .int .i64 x0, .int .i64 x1, .int .i64 x2, .slice xwa xwn xwc, .slice xba xbn xbc, .string xg, .string xa, .int .i64 xr], .agg #[.string yn, .int .i64 y0, .int .i64 y1, .int .i64 y2, .slice yla yln ylc, .slice yta ytn ytc]] w fun e w' => e = .returned (.bool (suitB ws ls ts bs)) ∧ Below w.heap.size w w' := by
  have K1 : Hid (∀ x, Below w.heap.size w x → Calls Tryz.prog 200 #[.slice xwa xwn xwc, .slice yla yln ylc] x fun e w' => e = .returned (.bool (amongB ws ls)) ∧ Below x.heap.size x w') := fun x hb => within_ref _ _ _ _ x (h1.over hb) (h3.over hb)
  have K2 : Hid (∀ x, Below w.heap.size w x → Calls Tryz.prog 200 #[.slice yta ytn ytc, .slice xba xbn xbc] x fun e w' => e = .returned (.bool (amongB ts bs)) ∧ Below x.heap.size x w') := fun x hb => within_ref _ _ _ _ x (h4.over hb) (h2.over hb)
  have HN : Hid (suitB ws ls ts bs = (amongB ws ls && amongB ts bs)) := rfl
  clear h1 h2 h3 h4
  generalize amongB ws ls = r1 at *
  generalize amongB ts bs = r2 at *
  go_enter Tryz.func154, Tryz.ntmps154
  go_wp2_with fail
  refine (K1.out _ (two _ _ _)).mono ?_
  rintro e w1 ⟨rfl, hb⟩
  obtain ⟨c0, c1, hbw⟩ := boxed hb
  have HB := Lib.hid hbw
  clear hb hbw
  cases r1
  · go_wp2
    go_ret
    exact ⟨by rw [HN.out]; rfl, HB.out⟩
  · go_wp2_with fail
    refine (K2.out _ HB.out).mono ?_
    rintro e w2 ⟨rfl, hb⟩
    have HB2 := Lib.hid (HB.out.trans (hb.mono HB.out.size))
    clear hb
    go_wp2
    go_ret
    exact ⟨by rw [HN.out]; rfl, HB2.out⟩
theorem suits_at {xn xg xa : ByteArray} {x0 x1 x2 xr : Int} {xwa xba : Option Addr} {xwn xwc xbn xbc : Nat} {yn : ByteArray} {y0 y1 y2 : Int} {yla yta : Option Addr} {yln ylc ytn ytc : Nat} {ws bs ls ts : List Pr} {r : Bool} {w : World} (h : suitB ws ls ts bs = r) (h1 : Pairs w w.heap.size (.slice xwa xwn xwc) ws) (h2 : Pairs w w.heap.size (.slice xba xbn xbc) bs)
    (h3 : Pairs w w.heap.size (.slice yla yln ylc) ls) (h4 : Pairs w w.heap.size (.slice yta ytn ytc) ts) :
    Calls Tryz.prog 126 #[.agg #[.string xn, .int .i64 x0, .int .i64 x1, .int .i64 x2, .slice xwa xwn xwc, .slice xba xbn xbc, .string xg, .string xa, .int .i64 xr], .agg #[.string yn, .int .i64 y0, .int .i64 y1, .int .i64 y2, .slice yla yln ylc, .slice yta ytn ytc]] w fun e w' => e = .returned (.bool r) ∧ Below w.heap.size w w' := by
  subst h
  exact suits_any xn xg xa x0 x1 x2 xr xwa xba xwn xwc xbn xbc yn y0 y1 y2 yla yta yln ylc ytn ytc ws bs ls ts w h1 h2 h3 h4
end Rg
end Go.Proofs.YthbmnkeigmbbdaaGreat
