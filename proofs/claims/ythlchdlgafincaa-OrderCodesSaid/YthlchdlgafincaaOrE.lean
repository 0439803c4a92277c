/-
  Merged: OrdBgs, OrdBgp, OrdBgn, OrdBgv, OrdBgd0, OrdBgd1, OrdBgd2, OrdBgd3, OrdBgd4, OrdBge.
-/
import Derived.Test.YthlchdlgafincaaOrF
import Derived.Deep.LoopGhost
import Derived.Test.YthlchdlgafincaaOrA
import Derived.Test.YthlchdlgafincaaOrdMath
import Derived.Test.YthlchdlgafincaaOrdChkR
import Derived.BigFrame
/-
  THE DOCUMENT'S BAG: amounts, pairs, with what they are worth.
-/
namespace Go.Proofs.Ythlchdlgafincaa
open Go.RowKit
namespace Hd
open PM Hc
/-- What a part that was taken is worth: with no wrong it stood there; what is there and right is taken. -/
structure Sp {α : Type} (l : List UInt8) (b : Bool) (enc : α → List UInt8) (good : α → Prop) (v : α) (r : List UInt8) (f : Bool) : Prop where
  snd : f = false → b = false ∧ enc v ++ r = l
  cpl : ∀ u r', good u → l = enc u ++ r' → b = false → f = false ∧ v = u ∧ r = r'
  len : r.length ≤ l.length
theorem Sp.and {α β : Type} {l m r : List UInt8} {b f g : Bool} {ea : α → List UInt8} {ga : α → Prop} {eb : β → List UInt8} {gb : β → Prop} {x : α} {y : β} (h : Sp l b ea ga x m f) (k : Sp m f eb gb y r g) :
    Sp l b (fun p : α × β => ea p.1 ++ eb p.2) (fun p => ga p.1 ∧ gb p.2) (x, y) r g := by
  refine ⟨fun hg => ?_, fun u r' hu hl hb => ?_, Nat.le_trans k.len h.len⟩
  · obtain ⟨h1, h2⟩ := k.snd hg
    obtain ⟨h3, h4⟩ := h.snd h1
    exact ⟨h3, by rw [List.append_assoc, h2, h4]⟩
  · rw [List.append_assoc] at hl
    obtain ⟨h1, h2, h3⟩ := h.cpl u.1 _ hu.1 hl hb
    obtain ⟨h4, h5, h6⟩ := k.cpl u.2 r' hu.2 h3 h1
    exact ⟨h4, by rw [h2, h5], h6⟩
theorem Sp.map {α β : Type} {l r : List UInt8} {b f : Bool} {ea : α → List UInt8} {ga : α → Prop} {x : α} (h : Sp l b ea ga x r f) (up : α → β) (dn : β → α) {eb : β → List UInt8} {gb : β → Prop}
    (h1 : eb (up x) = ea x) (h2 : ∀ u, gb u → ga (dn u) ∧ ea (dn u) = eb u ∧ up (dn u) = u) : Sp l b eb gb (up x) r f := by
  refine ⟨fun hf => ?_, fun u r' hu hl hb => ?_, h.len⟩
  · rw [h1]; exact h.snd hf
  · obtain ⟨a, c, d⟩ := h2 u hu
    rw [← c] at hl
    obtain ⟨e, g, k⟩ := h.cpl (dn u) r' a hl hb
    exact ⟨e, by rw [g, d], k⟩
theorem sp_num (l : List UInt8) (b : Bool) : Sp l b num (fun n => n < 2 ^ 64) (tnN l) (tnR l) (b || decide (tnW l ≠ 0)) := by
  refine ⟨fun h => ?_, fun u r' hu hl hb => ?_, tnR_length l⟩
  · rw [Bool.or_eq_false_iff] at h
    have h0 : tnW l = 0 := by simpa using h.2
    exact ⟨h.1, tn_forth l h0⟩
  · obtain ⟨a, c, d⟩ := tn_back u hu r'
    rw [hl, a, c, d, hb]
    exact ⟨rfl, rfl, rfl⟩
theorem sp_txt (l : List UInt8) (b : Bool) : Sp l b (fun s : ByteArray => txt s.data.toList) (fun s => s.size ≤ 32) (bs (ttT l)) (ttR l) (b || decide (ttW l ≠ 0)) := by
  refine ⟨fun h => ?_, fun u r' hu hl hb => ?_, ttR_length l⟩
  · rw [Bool.or_eq_false_iff] at h
    have h0 : ttW l = 0 := by simpa using h.2
    refine ⟨h.1, ?_⟩
    show txt (bs (ttT l)).data.toList ++ ttR l = l
    rw [bs_dat]
    exact tt_forth l h0
  · obtain ⟨a, c, d⟩ := tt_bk u hu r'
    rw [hl, a, c, d, hb]
    exact ⟨rfl, rfl, rfl⟩
set_option maxRecDepth 100000 in
set_option maxHeartbeats 1000000 in
theorem bag_amount (g : Nat) (l : List UInt8) (b : Bool) (w : World) (h : Tk w g l b) (hl : l.length ≤ maxLen) :
    Calls Try.prog 59 #[.pointer (some ⟨g, 0, none⟩)] w fun en w' => ∃ v r f, en = .returned (.int .i64 (v : Nat)) ∧ v < 4611686018427387904 ∧ Tk w' g r f ∧ Only g w w' ∧ Sp l b num (fun n => n ≤ amM) v r f := by
  have K := Lib.hid (bag_number g l b w h hl)
  have hs := sp_num l b
  have hn := tnN_lt l
  have hback := fun (u : Nat) r' (hu : u ≤ amM) (e : l = num u ++ r') => (tn_back u (by unfold amM at hu; omega) r').2.1
  clear h hl
  by_cases hbig : 4611686018427387904 ≤ tnN l
  · have HS : Hid (Sp l b num (fun n => n ≤ amM) 0 (tnR l) true) := ⟨fun h => (by cases h), fun u r' hu e hb => by
      exfalso
      have := hback u r' hu e
      rw [← e] at this
      unfold amM at hu
      omega, hs.len⟩
    have m1 : (4611686018427387904 : Int) ≤ ((tnN l : Nat) : Int) := by omega
    clear hs hback hbig
    go_enter Try.func59, Try.ntmps59
    go_wp2_with fail
    refine K.out.mono ?_
    rintro e w1 ⟨rfl, h1, ho1⟩
    have H1 := Lib.hid h1
    have HO1 := Lib.hid ho1
    clear h1 ho1
    obtain ⟨c0, c1, f0, f1⟩ := H1.out.cells
    go_wp2
    go_ret
    exact ⟨0, _, _, rfl, by omega, H1.out.put1, HO1.out.set _ _, HS.out⟩
  · have HS : Hid (Sp l b num (fun n => n ≤ amM) (tnN l) (tnR l) (b || decide (tnW l ≠ 0))) := ⟨hs.snd, fun u r' hu e hb => hs.cpl u r' (by unfold amM at hu; omega) e hb, hs.len⟩
    have m1 : ¬ (4611686018427387904 : Int) ≤ ((tnN l : Nat) : Int) := by omega
    have m2 : decide ((4611686018427387904 : Int) ≤ ((tnN l : Nat) : Int)) = false := decide_eq_false m1
    have tn : IntKind.i64.wrap ((tnN l : Nat) : Int) = ((tnN l : Nat) : Int) := by rw [IntKind.wrap_i64]; omega
    have HV : Hid (tnN l < 4611686018427387904) := by show _ < _; omega
    clear hs hback hbig
    go_enter Try.func59, Try.ntmps59
    go_wp2_with fail
    refine K.out.mono ?_
    rintro e w1 ⟨rfl, h1, ho1⟩
    have H1 := Lib.hid h1
    have HO1 := Lib.hid ho1
    clear h1 ho1
    go_wp2
    go_ret
    exact ⟨_, _, _, rfl, HV.out, H1.out, HO1.out, HS.out⟩
/-- Amounts, some of them taken. -/
structure SpA (k : Nat) (l : List UInt8) (b : Bool) (a0 a1 a2 : Nat) (r : List UInt8) (f : Bool) : Prop where
  snd : f = false → b = false ∧ amP a0 a1 a2 k ++ r = l
  cpl : ∀ u0 u1 u2 r', u0 ≤ amM → u1 ≤ amM → u2 ≤ amM → l = amP u0 u1 u2 k ++ r' → b = false → f = false ∧ (0 < k → a0 = u0) ∧ (1 < k → a1 = u1) ∧ (2 < k → a2 = u2) ∧ r = r'
  len : r.length ≤ l.length
theorem SpA.s0 (l : List UInt8) (b : Bool) : SpA 0 l b 0 0 0 l b := ⟨fun h => ⟨h, rfl⟩, fun u0 u1 u2 r' _ _ _ e hb => ⟨hb, by omega, by omega, by omega, e⟩, Nat.le_refl _⟩
theorem SpA.s1 {l r r2 : List UInt8} {b f f2 : Bool} {v : Nat} (h : SpA 0 l b 0 0 0 r f) (k : Sp r f num (fun n => n ≤ amM) v r2 f2) : SpA 1 l b v 0 0 r2 f2 := by
  refine ⟨fun hf => ?_, fun u0 u1 u2 r' h0 h1 h2 e hb => ?_, Nat.le_trans k.len h.len⟩
  · obtain ⟨a, c⟩ := k.snd hf
    obtain ⟨d, g⟩ := h.snd a
    exact ⟨d, by show num v ++ r2 = l; rw [c]; exact g⟩
  · obtain ⟨a, -, -, -, c⟩ := h.cpl 0 0 0 l (by unfold amM; omega) (by unfold amM; omega) (by unfold amM; omega) rfl hb
    obtain ⟨d, g, i⟩ := k.cpl u0 r' h0 (by rw [c]; exact e) a
    exact ⟨d, fun _ => g, by omega, by omega, i⟩
theorem SpA.s2 {l r r2 : List UInt8} {b f f2 : Bool} {a0 v : Nat} (h : SpA 1 l b a0 0 0 r f) (k : Sp r f num (fun n => n ≤ amM) v r2 f2) : SpA 2 l b a0 v 0 r2 f2 := by
  refine ⟨fun hf => ?_, fun u0 u1 u2 r' h0 h1 h2 e hb => ?_, Nat.le_trans k.len h.len⟩
  · obtain ⟨a, c⟩ := k.snd hf
    obtain ⟨d, g⟩ := h.snd a
    refine ⟨d, ?_⟩
    show num a0 ++ num v ++ r2 = l
    rw [List.append_assoc, c]
    exact g
  · have e2 : l = amP u0 u1 u2 1 ++ (num u1 ++ r') := by rw [e]; show num u0 ++ num u1 ++ r' = _; rw [List.append_assoc]; rfl
    obtain ⟨a, c0, -, -, c⟩ := h.cpl u0 u1 u2 _ h0 h1 h2 e2 hb
    obtain ⟨d, g, i⟩ := k.cpl u1 r' h1 c a
    exact ⟨d, fun _ => c0 (by omega), fun _ => g, by omega, i⟩
theorem SpA.s3 {l r r2 : List UInt8} {b f f2 : Bool} {a0 a1 v : Nat} (h : SpA 2 l b a0 a1 0 r f) (k : Sp r f num (fun n => n ≤ amM) v r2 f2) : SpA 3 l b a0 a1 v r2 f2 := by
  refine ⟨fun hf => ?_, fun u0 u1 u2 r' h0 h1 h2 e hb => ?_, Nat.le_trans k.len h.len⟩
  · obtain ⟨a, c⟩ := k.snd hf
    obtain ⟨d, g⟩ := h.snd a
    refine ⟨d, ?_⟩
    show num a0 ++ num a1 ++ num v ++ r2 = l
    rw [List.append_assoc, c]
    exact g
  · have e2 : l = amP u0 u1 u2 2 ++ (num u2 ++ r') := by rw [e]; show num u0 ++ num u1 ++ num u2 ++ r' = _; rw [List.append_assoc]; rfl
    obtain ⟨a, c0, c1, -, c⟩ := h.cpl u0 u1 u2 _ h0 h1 h2 e2 hb
    obtain ⟨d, g, i⟩ := k.cpl u2 r' h2 c a
    exact ⟨d, fun _ => c0 (by omega), fun _ => c1 (by omega), fun _ => g, i⟩
def bmC (a0 a1 a2 : Nat) : List Value := [.int .i64 (a0 : Nat), .int .i64 (a1 : Nat), .int .i64 (a2 : Nat)]
def Bm (w : World) (g : Nat) (l : List UInt8) (b : Bool) (k : Nat) (x : World) : Prop := ∃ a0 a1 a2 r f, SpA k l b a0 a1 a2 r f ∧ Tz w g r f (bmC a0 a1 a2) (bmC 0 0 0) x ∧ (k ≤ 0 → a0 = 0) ∧ (k ≤ 1 → a1 = 0) ∧ (k ≤ 2 → a2 = 0) ∧ (a0 < 4611686018427387904 ∧ a1 < 4611686018427387904 ∧ a2 < 4611686018427387904)
def BaIs (g : Nat) (l : List UInt8) (b : Bool) (w : World) (en : Ending) (w' : World) : Prop := ∃ a0 a1 a2 r f, en = .returned (.agg #[.int .i64 (a0 : Nat), .int .i64 (a1 : Nat), .int .i64 (a2 : Nat)]) ∧ SpA 3 l b a0 a1 a2 r f ∧ Tk w' g r f ∧ Only g w w'
set_option maxRecDepth 100000 in
set_option maxHeartbeats 2000000 in
theorem bag_amounts (g : Nat) (l : List UInt8) (b : Bool) (w : World) (h : Tk w g l b) (hl : l.length ≤ maxLen) :
    Calls Try.prog 57 #[.pointer (some ⟨g, 0, none⟩)] w fun en w' => BaIs g l b w en w' := by
  have HS0 : Hid (Bm w g l b 0 ((w.alloc (.cells #[.int .i64 0, .int .i64 0, .int .i64 0] 24)).alloc (.cells #[.int .i64 0, .int .i64 0, .int .i64 0] 24))) := ⟨0, 0, 0, l, b, SpA.s0 l b, Tz.made (bmC 0 0 0) 24 h, fun _ => rfl, fun _ => rfl, fun _ => rfl, by omega, by omega, by omega⟩
  have KA := Lib.hid (fun r f z (hz : Tk z g r f) (hr : r.length ≤ l.length) => bag_amount g r f z hz (Nat.le_trans hr hl))
  clear h hl
  go_enter Try.func57, Try.ntmps57
  go_wp2
  go_loopg [5] 3 (fun gg i wx => ∃ k : Nat, k + gg = 3 ∧ i = .int .i64 k ∧ Aside (Bm w g l b k wx))
  case atStart => exact ⟨0, by omega, rfl, HS0.out⟩
  case round =>
    obtain ⟨k, hkg, rfl, HB⟩ := hrel
    obtain ⟨a0, a1, a2, r, f, hsp, htz, z0, z1, z2, hbd⟩ := HB.out
    have HT := Lib.hid htz
    have HSP := Lib.hid hsp
    have HBD := Lib.hid hbd
    clear htz hsp HB hbd
    cases gk with
    | zero =>
      obtain rfl : k = 3 := by omega
      have c0 : wr.cell? ⟨w.heap.size + 1, 0, none⟩ = some (.int .i64 (a0 : Nat)) := HT.out.bx.cell 0
      have c1 : wr.cell? ⟨w.heap.size + 1, 1, none⟩ = some (.int .i64 (a1 : Nat)) := HT.out.bx.cell 1
      have c2 : wr.cell? ⟨w.heap.size + 1, 2, none⟩ = some (.int .i64 (a2 : Nat)) := HT.out.bx.cell 2
      have r0 : wr.cell? ⟨w.heap.size, 0, none⟩ = some (.int .i64 0) := HT.out.rb.cell 0
      have r1 : wr.cell? ⟨w.heap.size, 1, none⟩ = some (.int .i64 0) := HT.out.rb.cell 1
      have r2 : wr.cell? ⟨w.heap.size, 2, none⟩ = some (.int .i64 0) := HT.out.rb.cell 2
      have g0 := HT.out.rb.fz 0
      have g1 := HT.out.rb.fz 1
      have g2 := HT.out.rb.fz 2
      clear z0 z1 z2
      go_wp2
      refine bodyPost_bx (ty := 24) (p := 2) rfl w.heap.size (bmC a0 a1 a2) _ rfl rfl ?_ Try.underlying24 rfl rfl ?_
      case refine_1 => exact (((HT.out.q 0 _).q 1 _).q 2 _).rb
      case refine_2 => exact ⟨a0, a1, a2, r, f, rfl, HSP.out, (((HT.out.q 0 _).q 1 _).q 2 _).tk, (((HT.out.q 0 _).q 1 _).q 2 _).on⟩
    | succ gg =>
      have hc : k = 0 ∨ k = 1 ∨ k = 2 := by omega
      have K := Lib.hid (KA.out r f wr HT.out.tk HSP.out.len)
      rcases hc with rfl | rfl | rfl
      · obtain rfl := z0 (by omega)
        obtain rfl := z1 (by omega)
        obtain rfl := z2 (by omega)
        clear z0 z1 z2
        go_wp2_with fail
        refine K.out.mono ?_
        rintro e w1 ⟨v, r2, f2, rfl, hv, h1, ho1, hs1⟩
        have HT1 := Lib.hid (HT.out.go h1 ho1)
        have HS1 := Lib.hid (SpA.s1 HSP.out hs1)
        have HV := Lib.hid hv
        clear h1 ho1 hs1 hv
        have c0 : w1.cell? ⟨w.heap.size + 1, 0, none⟩ = some (.int .i64 ((0 : Nat) : Int)) := HT1.out.bx.cell 0
        have f0 := HT1.out.bx.fz 0
        go_wp2
        go_roundg gg
        case measure => omega
        case rel => exact ⟨1, by omega, rfl, v, 0, 0, r2, f2, HS1.out, HT1.out.p 0 _, by omega, fun _ => rfl, fun _ => rfl, HV.out, by omega, by omega⟩
      · obtain rfl := z1 (by omega)
        obtain rfl := z2 (by omega)
        clear z0 z1 z2
        go_wp2_with fail
        refine K.out.mono ?_
        rintro e w1 ⟨v, r2, f2, rfl, hv, h1, ho1, hs1⟩
        have HT1 := Lib.hid (HT.out.go h1 ho1)
        have HS1 := Lib.hid (SpA.s2 HSP.out hs1)
        have HV := Lib.hid hv
        clear h1 ho1 hs1 hv
        have c0 : w1.cell? ⟨w.heap.size + 1, 1, none⟩ = some (.int .i64 ((0 : Nat) : Int)) := HT1.out.bx.cell 1
        have f0 := HT1.out.bx.fz 1
        go_wp2
        go_roundg gg
        case measure => omega
        case rel => exact ⟨2, by omega, rfl, a0, v, 0, r2, f2, HS1.out, HT1.out.p 1 _, by omega, by omega, fun _ => rfl, HBD.out.1, HV.out, by omega⟩
      · obtain rfl := z2 (by omega)
        clear z0 z1 z2
        go_wp2_with fail
        refine K.out.mono ?_
        rintro e w1 ⟨v, r2, f2, rfl, hv, h1, ho1, hs1⟩
        have HT1 := Lib.hid (HT.out.go h1 ho1)
        have HS1 := Lib.hid (SpA.s3 HSP.out hs1)
        have HV := Lib.hid hv
        clear h1 ho1 hs1 hv
        have c0 : w1.cell? ⟨w.heap.size + 1, 2, none⟩ = some (.int .i64 ((0 : Nat) : Int)) := HT1.out.bx.cell 2
        have f0 := HT1.out.bx.fz 2
        go_wp2
        go_roundg gg
        case measure => omega
        case rel => exact ⟨3, by omega, rfl, a0, a1, v, r2, f2, HS1.out, HT1.out.p 2 _, by omega, by omega, by omega, HBD.out.1, HBD.out.2.1, HV.out⟩
end Hd
end Go.Proofs.Ythlchdlgafincaa

/-
  THE DOCUMENT'S BAG: pairs.
-/
namespace Go.Proofs.Ythlchdlgafincaa
open Go.RowKit
namespace Hd
open PM Hc
structure SpP (l : List UInt8) (b : Bool) (ps : List Rg.Pr) (r : List UInt8) (f : Bool) : Prop where
  snd : f = false → b = false ∧ tnN l ≤ 4 ∧ num (tnN l) ++ ps.flatMap prF ++ r = l
  cpl : ∀ qs r', SmP qs → l = prB qs ++ r' → b = false → f = false ∧ tnN l = qs.length ∧ ps = qs.take ps.length ∧ r = (qs.drop ps.length).flatMap prF ++ r'
  len : r.length ≤ l.length
  few : ps.length ≤ tnN l
  took : Took ps maxLen
theorem SpP.s0 (l : List UInt8) (b f : Bool) (hf : (f = false → b = false ∧ tnW l = 0 ∧ tnN l ≤ 4) ∧ (b = false → tnW l = 0 → tnN l ≤ 4 → f = false)) : SpP l b [] (tnR l) f := by
  refine ⟨fun h => ?_, fun qs r' hs e hb => ?_, tnR_length l, Nat.zero_le _, nil_took _⟩
  · obtain ⟨a, c, d⟩ := hf.1 h
    exact ⟨a, d, by rw [List.flatMap_nil, List.append_nil]; exact tn_forth l c⟩
  · have e2 : l = num qs.length ++ (qs.flatMap prF ++ r') := by rw [e]; unfold prB; rw [List.append_assoc]
    obtain ⟨a, c, d⟩ := tn_back qs.length (by have := hs.1; omega) (qs.flatMap prF ++ r')
    rw [← e2] at a c d
    exact ⟨hf.2 hb a (by rw [c]; exact hs.1), c, by simp, by rw [d]; simp⟩
theorem SpP.step {l r : List UInt8} {b : Bool} {ps : List Rg.Pr} (h : SpP l b ps r false) (hlt : ps.length < tnN l) (hl : l.length ≤ maxLen) :
    SpP l b (ps ++ [⟨bs (ttT r), bs (ttT (ttR r))⟩]) (ttR (ttR r)) ((false || decide (ttW r ≠ 0)) || decide (ttW (ttR r) ≠ 0)) := by
  obtain ⟨hb, h4, hs⟩ := h.snd rfl
  have t1 := sp_txt r false
  have t2 := sp_txt (ttR r) (false || decide (ttW r ≠ 0))
  refine ⟨fun hf => ?_, fun qs r' hq e hb => ?_, Nat.le_trans t2.len (Nat.le_trans t1.len h.len), by simp; omega, ?_⟩
  · obtain ⟨a1, e2⟩ := t2.snd hf
    obtain ⟨-, e1⟩ := t1.snd a1
    refine ⟨hb, h4, ?_⟩
    rw [List.flatMap_append]
    simp only [List.flatMap_cons, List.flatMap_nil, List.append_nil]
    unfold prF at hs ⊢
    simp only [List.append_assoc] at hs e1 e2 ⊢
    rw [e2, e1]
    exact hs
  · obtain ⟨a, c, d, g⟩ := h.cpl qs r' hq e hb
    have hk : ps.length < qs.length := by omega
    have hsz := hq.2 _ (List.getElem_mem hk)
    rw [List.drop_eq_getElem_cons hk, List.flatMap_cons] at g
    have g2 : r = txt (qs[ps.length]).k.data.toList ++ (txt (qs[ps.length]).v.data.toList ++ ((qs.drop (ps.length + 1)).flatMap prF ++ r')) := by
      rw [g]; unfold prF; simp only [List.append_assoc]
    obtain ⟨b1, b2, b3⟩ := t1.cpl _ _ hsz.1 g2 rfl
    obtain ⟨c1, c2, c3⟩ := t2.cpl _ _ hsz.2 b3 b1
    refine ⟨c1, c, ?_, by rw [List.length_append]; exact c3⟩
    rw [List.length_append, List.length_singleton, List.take_add_one, List.getElem?_eq_getElem hk, ← d, b2, c2]
    rfl
  · refine ⟨by simp; omega, fun p hp => ?_⟩
    rw [List.mem_append] at hp
    rcases hp with hp | hp
    · exact h.took.2 p hp
    · simp only [List.mem_singleton] at hp
      subst hp
      exact ⟨bs_le (Nat.le_trans h.len hl), bs_le (Nat.le_trans (ttR_length r) (Nat.le_trans h.len hl))⟩
theorem SpP.fin {l r : List UInt8} {b f : Bool} {ps : List Rg.Pr} (h : SpP l b ps r f) (he : f = false → tnN l ≤ ps.length) : Sp l b prB SmP ps r f := by
  refine ⟨fun hf => ?_, fun qs r' hq e hb => ?_, h.len⟩
  · obtain ⟨a, c, d⟩ := h.snd hf
    refine ⟨a, ?_⟩
    unfold prB
    rw [show ps.length = tnN l by have := he hf; have := h.few; omega]
    exact d
  · obtain ⟨a, c, d, g⟩ := h.cpl qs r' hq e hb
    have hk : ps.length = qs.length := by have := he a; have := h.few; omega
    refine ⟨a, ?_, ?_⟩
    · rw [d, hk, List.take_length]
    · rw [g, hk, List.drop_length]; rfl
/-- What the taking of pairs comes to. -/
def BpIs (g : Nat) (l : List UInt8) (b : Bool) (w : World) (en : Ending) (w' : World) : Prop := ∃ v ps r f, en = .returned v ∧ OwnP w' w.heap.size v ps ∧ Took ps maxLen ∧ Tk w' g r f ∧ Only g w w' ∧ Sp l b prB SmP ps r f
structure Bq (w : World) (g : Nat) (l : List UInt8) (b : Bool) (v : Value) (ps : List Rg.Pr) (r : List UInt8) (f : Bool) (x : World) : Prop where
  tk : Tk x g r f
  own : OwnP x w.heap.size v ps
  on : Only g w x
  sp : SpP l b ps r f
theorem bq_end {w w2 w8 : World} {g : Nat} {v : Value} {ps : List Rg.Pr} {y : Rg.Pr} {a8 : Option Addr} {c8 : Nat} {o : Obj} {r : List UInt8} {f : Bool} {l : List UInt8} {b : Bool} (hlt : g < w.heap.size)
    (ht : Tk w2 g r f) (ho : Only g w w2) (hown : OwnP w2 w.heap.size v ps) (hown8 : OwnP w8 w.heap.size (.slice a8 (ps ++ [y]).length c8) (ps ++ [y])) (hg8 : (w2.alloc o).grownBy w8 v.ownBlock) (hs : SpP l b (ps ++ [y]) r f) :
    Bq w g l b (.slice a8 (ps ++ [y]).length c8) (ps ++ [y]) r f w8 := by
  have hsz := ho.size
  have hrow : ∀ i, i < w.heap.size → v.ownBlock ≠ some i := fun i hi => hown.far hi
  have b8 : ∀ i, i < w.heap.size → w8.heap[i]? = w2.heap[i]? := fun i hi => (hg8.block i (by simp; omega) (fun e => hrow i hi e.symm)).trans (Lib.alloc_old w2 o i (by omega))
  have s8 : w2.heap.size + 1 ≤ w8.heap.size := by have := hg8.size; simpa using this
  exact ⟨tk_blk ht (b8 g hlt), hown8, ⟨hg8.os.trans ho.os, hg8.tape.trans ho.tape, hg8.output.trans ho.output, by omega, fun i hi hne => (b8 i hi).trans (ho.block i hi hne)⟩, hs⟩
theorem bq_end9 {w x : World} {g : Nat} {l r : List UInt8} {b f : Bool} {a8 : Option Addr} {c8 : Nat} {ps : List Rg.Pr} {y : Rg.Pr} (h : Bq w g l b (.slice a8 (ps ++ [y]).length c8) (ps ++ [y]) r f x) :
    Bq w g l b (.slice a8 (ps.length + 1) c8) (ps ++ [y]) r f x := by
  rw [List.length_append] at h; exact h
set_option maxRecDepth 100000 in
set_option maxHeartbeats 4000000 in
theorem bag_pairs (g : Nat) (l : List UInt8) (b : Bool) (w : World) (h : Tk w g l b) (hl : l.length ≤ maxLen) :
    Calls Try.prog 58 #[.pointer (some ⟨g, 0, none⟩)] w fun en w' => BpIs g l b w en w' := by
  have K0 := Lib.hid (bag_number g l b w h hl)
  have HT := Lib.hid (fun r f z (hz : Tk z g r f) (hr : r.length ≤ l.length) => bag_text g r f z hz (Nat.le_trans hr hl))
  have HG := Lib.hid h.lt
  have HLM := Lib.hid hl
  have hn := tnN_lt l
  have hs1 : tnN l ≤ 4 → SpP l b [] (tnR l) (b || decide (tnW l ≠ 0)) := fun h4 => SpP.s0 l b _ ⟨fun h => by rw [Bool.or_eq_false_iff] at h; exact ⟨h.1, by simpa using h.2, h4⟩, fun hb hw _ => by rw [hb, hw]; rfl⟩
  have hs2 : 4 < tnN l → SpP l b [] (tnR l) true := fun h4 => SpP.s0 l b _ ⟨fun h => by (cases h), fun _ _ h => by omega⟩
  have HB0 : Hid (∃ w1, True) := ⟨w, trivial⟩
  clear h hl HB0
  have HFIN : Hid (∀ ps r f, SpP l b ps r f → (f = false → tnN l ≤ ps.length) → Sp l b prB SmP ps r f) := fun ps r f h he => h.fin he
  go_enter Try.func58, Try.ntmps58
  go_wp2_with fail
  refine K0.out.mono ?_
  rintro e w1 ⟨rfl, h1, ho1⟩
  have HK1 := Lib.hid h1
  have HO1 := Lib.hid ho1
  clear h1 ho1 K0
  obtain ⟨c0, c1, f0, f1⟩ := HK1.out.cells
  have LOOP : True := trivial
  by_cases h4 : 4 < tnN l
  · have m1 : (4 : Int) < ((tnN l : Nat) : Int) := by omega
    have HQ : Hid (Bq w g l b (.slice none 0 0) [] (tnR l) true (w1.setCell ⟨g, 1, none⟩ (.bool true))) := ⟨HK1.out.put1, OwnP.nil _ _, HO1.out.set _ _, hs2 h4⟩
    clear hs1 hs2 h4 HK1 HO1
    go_wp2
    go_loopg [4, 5] 5 (fun gg v i wx => ∃ k : Nat, k + gg = 5 ∧ i = .int .u64 k ∧ Aside (∃ ps r f, k = ps.length ∧ Bq w g l b v ps r f wx))
    case atStart => exact ⟨0, by omega, rfl, [], _, _, rfl, HQ.out⟩
    case round =>
      clear HQ c0 c1 f0 f1
      obtain ⟨k, hkg, rfl, HA⟩ := hrel
      obtain ⟨ps, r, f, rfl, hq⟩ := HA.out
      have HQ2 := Lib.hid hq
      obtain ⟨av, cv, rfl⟩ := hq.own.slice
      have h4 := fun h => (hq.sp.snd h).2.1
      have hfew := hq.sp.few
      clear HA hq
      obtain ⟨c0, c1, f0, f1⟩ := HQ2.out.tk.cells
      cases f with
      | true =>
        have HE := Lib.hid (HFIN.out _ _ _ HQ2.out.sp (fun h => by (cases h)))
        clear h4
        by_cases hlt : ps.length < tnN l
        · have m3 : ((ps.length : Nat) : Int) < ((tnN l : Nat) : Int) := by omega
          go_wp2
          go_ret
          exact ⟨_, ps, r, true, rfl, HQ2.out.own, HQ2.out.sp.took, HQ2.out.tk, HQ2.out.on, HE.out⟩
        · have m3 : ¬ ((ps.length : Nat) : Int) < ((tnN l : Nat) : Int) := by omega
          have m4 : decide (ps.length < tnN l) = false := decide_eq_false hlt
          go_wp2
          go_ret
          exact ⟨_, ps, r, true, rfl, HQ2.out.own, HQ2.out.sp.took, HQ2.out.tk, HQ2.out.on, HE.out⟩
      | false => exact absurd (h4 rfl) (by omega)
  · have m1 : ¬ (4 : Int) < ((tnN l : Nat) : Int) := by omega
    have m2 : decide ((4 : Int) < ((tnN l : Nat) : Int)) = false := decide_eq_false m1
    have HQ : Hid (Bq w g l b (.slice none 0 0) [] (tnR l) (b || decide (tnW l ≠ 0)) w1) := ⟨HK1.out, OwnP.nil _ _, HO1.out, hs1 (by omega)⟩
    clear hs1 hs2 h4 HK1 HO1 c0 c1 f0 f1
    go_wp2
    go_loopg [4, 5] 5 (fun gg v i wx => ∃ k : Nat, k + gg = 5 ∧ i = .int .u64 k ∧ Aside (∃ ps r f, k = ps.length ∧ Bq w g l b v ps r f wx))
    case atStart => exact ⟨0, by omega, rfl, [], _, _, rfl, HQ.out⟩
    case round =>
      clear HQ
      obtain ⟨k, hkg, rfl, HA⟩ := hrel
      obtain ⟨ps, r, f, rfl, hq⟩ := HA.out
      have HQ2 := Lib.hid hq
      obtain ⟨av, cv, rfl⟩ := hq.own.slice
      have h4 := fun h => (hq.sp.snd h).2.1
      have hfew := hq.sp.few
      clear HA hq
      obtain ⟨c0, c1, f0, f1⟩ := HQ2.out.tk.cells
      cases f with
      | true =>
        have HE := Lib.hid (HFIN.out _ _ _ HQ2.out.sp (fun h => by (cases h)))
        clear h4
        by_cases hlt : ps.length < tnN l
        · have m3 : ((ps.length : Nat) : Int) < ((tnN l : Nat) : Int) := by omega
          go_wp2
          go_ret
          exact ⟨_, ps, r, true, rfl, HQ2.out.own, HQ2.out.sp.took, HQ2.out.tk, HQ2.out.on, HE.out⟩
        · have m3 : ¬ ((ps.length : Nat) : Int) < ((tnN l : Nat) : Int) := by omega
          have m4 : decide (ps.length < tnN l) = false := decide_eq_false hlt
          go_wp2
          go_ret
          exact ⟨_, ps, r, true, rfl, HQ2.out.own, HQ2.out.sp.took, HQ2.out.tk, HQ2.out.on, HE.out⟩
      | false =>
        have h4' := h4 rfl
        clear h4
        by_cases hlt : ps.length < tnN l
        · have m3 : ((ps.length : Nat) : Int) < ((tnN l : Nat) : Int) := by omega
          have HST := Lib.hid (SpP.step HQ2.out.sp hlt HLM.out)
          have hp4 : ps.length ≤ 4 := by omega
          obtain ⟨gg, rfl⟩ : ∃ gg, gk = gg + 1 := ⟨gk - 1, by omega⟩
          have K1 := Lib.hid (HT.out r false wr HQ2.out.tk HQ2.out.sp.len)
          have K2 := Lib.hid (fun z (hz : Tk z g (ttR r) (false || decide (ttW r ≠ 0))) => HT.out (ttR r) _ z hz (Nat.le_trans (ttR_length r) HQ2.out.sp.len))
          generalize bs (ttT r) = s1 at *
          generalize bs (ttT (ttR r)) = s2 at *
          generalize ttR (ttR r) = r2 at *
          generalize ((false || decide (ttW r ≠ 0)) || decide (ttW (ttR r) ≠ 0)) = f2 at *
          have tk : IntKind.u64.wrap (((ps.length : Nat) : Int) + 1) = ((ps.length : Nat) : Int) + 1 := by rw [IntKind.wrap_u64]; omega
          go_wp2_with fail
          refine K1.out.mono ?_
          rintro e w2 ⟨rfl, h1, ho1⟩
          have HK2 := Lib.hid h1
          have HO2 := Lib.hid (HQ2.out.on.trans ho1)
          have HW2 := Lib.hid (HQ2.out.own.only ho1 (HQ2.out.own.far HG.out))
          clear h1 ho1 c0 c1 f0 f1
          go_wp2_with fail
          refine (K2.out _ HK2.out).mono ?_
          rintro e w3 ⟨rfl, h1, ho1⟩
          have HK3 := Lib.hid h1
          have HO3 := Lib.hid (HO2.out.trans ho1)
          have HW3 := Lib.hid (HW2.out.only ho1 (HW2.out.far HG.out))
          clear h1 ho1
          have hbz : w.heap.size ≤ (w3.alloc (.cells #[.string s1, .string s2] 132)).heap.size := by have := HO3.out.size; rw [World.size_alloc]; omega
          go_wp2_with (at_builtin; go_loud (refine wl_pair rfl (.tmp 31) (.tmp 35) rfl w.heap.size hbz ps ⟨s1, s2⟩ _ rfl (HW3.out.al _) ⟨w3.heap.size, 0, none⟩ 1 rfl (by simp [go_sem, Addr.add]) (by simp [go_sem, Addr.add]) (by omega) ?_; intro v8 w8 hown8 hg8; obtain ⟨a8, c8, rfl⟩ := hown8.slice; have HE : Hid (Bq w g l b (.slice a8 (ps.length + 1) c8) (ps ++ [⟨s1, s2⟩]) r2 f2 w8) := Lib.hid (bq_end9 (bq_end HG.out HK3.out HO3.out HW3.out hown8 hg8 HST.out)); clear hg8 hown8))
          go_wp2
          go_roundg gg
          case measure => omega
          case rel => exact ⟨ps.length + 1, by omega, by simp, _, _, _, by rw [List.length_append]; rfl, HE.out⟩
        · have m3 : ¬ ((ps.length : Nat) : Int) < ((tnN l : Nat) : Int) := by omega
          have m4 : decide (ps.length < tnN l) = false := decide_eq_false hlt
          have HE := Lib.hid (HFIN.out _ _ _ HQ2.out.sp (fun _ => by omega))
          clear hlt
          go_wp2
          go_ret
          exact ⟨_, ps, r, false, rfl, HQ2.out.own, HQ2.out.sp.took, HQ2.out.tk, HQ2.out.on, HE.out⟩
end Hd
end Go.Proofs.Ythlchdlgafincaa

/-
  THE DOCUMENT'S BAG: a node and a task, taken.
-/
namespace Go.Proofs.Ythlchdlgafincaa
open Go.RowKit
namespace Hd
open PM Hc
def txF (s : ByteArray) : List UInt8 := txt s.data.toList
def txS (s : ByteArray) : Prop := s.size ≤ 32
def amF (p : Nat × Nat × Nat) : List UInt8 := amB p.1 p.2.1 p.2.2
def amS (p : Nat × Nat × Nat) : Prop := p.1 ≤ amM ∧ p.2.1 ≤ amM ∧ p.2.2 ≤ amM
def nuS (n : Nat) : Prop := n ≤ amM
theorem SpA.sp {l r : List UInt8} {b f : Bool} {a0 a1 a2 : Nat} (h : SpA 3 l b a0 a1 a2 r f) : Sp l b amF amS (a0, a1, a2) r f := by
  refine ⟨h.snd, fun u r' hu e hb => ?_, h.len⟩
  obtain ⟨u0, u1, u2⟩ := u
  obtain ⟨a, c0, c1, c2, d⟩ := h.cpl u0 u1 u2 r' hu.1 hu.2.1 hu.2.2 e hb
  exact ⟨a, by rw [c0 (by omega), c1 (by omega), c2 (by omega)], d⟩
theorem nd_sp {l r0 r1 r2 r3 : List UInt8} {b f0 f1 f2 f3 : Bool} {q : ByteArray} {a0 a1 a2 : Nat} {ls ts : List Rg.Pr}
    (h0 : Sp l b txF txS q r0 f0) (h1 : Sp r0 f0 amF amS (a0, a1, a2) r1 f1) (h2 : Sp r1 f1 prB SmP ls r2 f2) (h3 : Sp r2 f2 prB SmP ts r3 f3) :
    Sp l b ndY SmN ⟨q, (a0 : Nat), (a1 : Nat), (a2 : Nat), ls, ts⟩ r3 f3 := by
  refine (((h0.and h1).and h2).and h3).map (fun (p : ((ByteArray × Nat × Nat × Nat) × List Rg.Pr) × List Rg.Pr) => (⟨p.1.1.1, (p.1.1.2.1 : Nat), (p.1.1.2.2.1 : Nat), (p.1.1.2.2.2 : Nat), p.1.2, p.2⟩ : Nd)) (fun (n : Nd) => (((n.n, n.z0.toNat, n.z1.toNat, n.z2.toNat), n.ls), n.ts)) rfl (fun u hu => ?_)
  obtain ⟨nn, z0, z1, z2, ls, ts⟩ := u
  obtain ⟨g1, g2, g3, g4, g5, g6⟩ := hu
  simp only at g1 g2 g3 g4 g5 g6
  refine ⟨⟨⟨⟨g1, g2.bk.1, g3.bk.1, g4.bk.1⟩, g5⟩, g6⟩, rfl, ?_⟩
  simp only [g2.bk.2, g3.bk.2, g4.bk.2]
theorem td_sp {l r0 r1 r2 r3 r4 r5 r6 : List UInt8} {b f0 f1 f2 f3 f4 f5 f6 : Bool} {q q4 q5 : ByteArray} {a0 a1 a2 rk : Nat} {ls ts : List Rg.Pr}
    (h0 : Sp l b txF txS q r0 f0) (h1 : Sp r0 f0 amF amS (a0, a1, a2) r1 f1) (h2 : Sp r1 f1 prB SmP ls r2 f2) (h3 : Sp r2 f2 prB SmP ts r3 f3)
    (h4 : Sp r3 f3 txF txS q4 r4 f4) (h5 : Sp r4 f4 txF txS q5 r5 f5) (h6 : Sp r5 f5 num nuS rk r6 f6) :
    Sp l b tdY SmT ⟨q, (a0 : Nat), (a1 : Nat), (a2 : Nat), ls, ts, q4, q5, ((rk : Nat) : Int) - 1000⟩ r6 f6 := by
  refine ((((((h0.and h1).and h2).and h3).and h4).and h5).and h6).map (fun (p : (((((ByteArray × Nat × Nat × Nat) × List Rg.Pr) × List Rg.Pr) × ByteArray) × ByteArray) × Nat) => (⟨p.1.1.1.1.1.1, (p.1.1.1.1.1.2.1 : Nat), (p.1.1.1.1.1.2.2.1 : Nat), (p.1.1.1.1.1.2.2.2 : Nat), p.1.1.1.1.2, p.1.1.1.2, p.1.1.2, p.1.2, ((p.2 : Nat) : Int) - 1000⟩ : Td))
    (fun (n : Td) => ((((((n.n, n.z0.toNat, n.z1.toNat, n.z2.toNat), n.ws), n.bs), n.g), n.a), (n.r + 1000).toNat)) ?_ (fun u hu => ?_)
  · have e : (((rk : Nat) : Int) - 1000 + 1000).toNat = rk := by omega
    show tdY ⟨q, (a0 : Nat), (a1 : Nat), (a2 : Nat), ls, ts, q4, q5, ((rk : Nat) : Int) - 1000⟩ = _
    unfold tdY
    rw [e]
    rfl
  · obtain ⟨nn, z0, z1, z2, ls, ts, gr, ap, rr⟩ := u
    obtain ⟨g1, g2, g3, g4, g5, g6, g7, g8, g9⟩ := hu
    simp only at g1 g2 g3 g4 g5 g6 g7 g8 g9
    have e : (((rr + 1000).toNat : Nat) : Int) - 1000 = rr := by omega
    refine ⟨⟨⟨⟨⟨⟨⟨g1, g2.bk.1, g3.bk.1, g4.bk.1⟩, g5⟩, g6⟩, g7⟩, g8⟩, ?_⟩, rfl, ?_⟩
    · show (rr + 1000).toNat ≤ amM
      unfold amM
      omega
    simp only [g2.bk.2, g3.bk.2, g4.bk.2, e]
def BtIs (g : Nat) (l : List UInt8) (b : Bool) (w : World) (en : Ending) (w' : World) : Prop := ∃ q r f, en = .returned (.string q) ∧ q.size ≤ maxLen ∧ Sp l b txF txS q r f ∧ Tk w' g r f ∧ Only g w w'
theorem bag_textS (g : Nat) (l : List UInt8) (b : Bool) (w : World) (h : Tk w g l b) (hl : l.length ≤ maxLen) :
    Calls Try.prog 32 #[.pointer (some ⟨g, 0, none⟩)] w fun en w' => BtIs g l b w en w' := by
  refine (bag_text g l b w h hl).mono ?_
  rintro e w' ⟨rfl, h1, ho⟩
  exact ⟨_, _, _, rfl, bs_le hl, sp_txt l b, h1, ho⟩
/-- As Tz, the second box anywhere behind the first. -/
structure Ty (w0 : World) (g C : Nat) (l : List UInt8) (b : Bool) (cs rs : List Value) (x : World) : Prop where
  tk : Tk x g l b
  bx : Bxn x C cs
  rb : Bxn x w0.heap.size rs
  on : Only g w0 x
  lt : g < w0.heap.size
  lc : w0.heap.size < C
theorem Ty.go {w0 : World} {g C : Nat} {l l2 : List UInt8} {b b2 : Bool} {cs rs : List Value} {x x' : World} (h : Ty w0 g C l b cs rs x) (ht : Tk x' g l2 b2) (ho : Only g x x') : Ty w0 g C l2 b2 cs rs x' :=
  ⟨ht, h.bx.only ho (by have := h.lt; have := h.lc; omega), h.rb.only ho (by have := h.lt; omega), h.on.trans ho, h.lt, h.lc⟩
theorem Ty.p {w0 : World} {g C : Nat} {l : List UInt8} {b : Bool} {cs rs : List Value} {x : World} (h : Ty w0 g C l b cs rs x) (i : Nat) (u : Value) : Ty w0 g C l b (cs.set i u) rs (x.setCell ⟨C, i, none⟩ u) :=
  ⟨h.tk.far (by have := h.lt; have := h.lc; omega) i u, h.bx.set i u, h.rb.apart (by have := h.lc; omega) i u, h.on.put2 (by have := h.lc; omega) i u, h.lt, h.lc⟩
theorem Ty.q {w0 : World} {g C : Nat} {l : List UInt8} {b : Bool} {cs rs : List Value} {x : World} (h : Ty w0 g C l b cs rs x) (i : Nat) (u : Value) : Ty w0 g C l b cs (rs.set i u) (x.setCell ⟨w0.heap.size, i, none⟩ u) :=
  ⟨h.tk.far (by have := h.lt; omega) i u, h.bx.apart (by have := h.lc; omega) i u, h.rb.set i u, h.on.put2 (by omega) i u, h.lt, h.lc⟩
theorem Ty.made {w x : World} {g : Nat} {l r : List UInt8} {b f : Bool} (cs rs : List Value) (T T2 : TypeId) (h : Tk w g l b) (ht : Tk x g r f) (ho : Only g (w.alloc (.cells rs.toArray T)) x) : Ty w g x.heap.size r f cs rs (x.alloc (.cells cs.toArray T2)) := by
  have hl := h.lt
  have hs := ho.size
  rw [World.size_alloc] at hs
  have h1 : Below w.heap.size w (w.alloc (.cells rs.toArray T)) := (Below.refl _ _).alloc (Nat.le_refl _) _
  have h2 : Below x.heap.size x (x.alloc (.cells cs.toArray T2)) := (Below.refl _ _).alloc (Nat.le_refl _) _
  exact ⟨ht.below h2 ht.lt, Bxn.made x cs T2, ((Bxn.made w rs T).only ho (by omega)).below h2, ((Only.of_below h1).trans ho).trans (Only.of_below h2), hl, by omega⟩
theorem OwnP.cgo {x x' : World} {C : Nat} {v : Value} {ps : List Rg.Pr} {g : Nat} (h : OwnP x (C + 1) v ps) (hg : g < C) (ho : Only g x x') : OwnP x' (C + 1) v ps := h.only ho (h.far (by omega))
theorem OwnP.cp {x : World} {C p : Nat} {v : Value} {ps : List Rg.Pr} (h : OwnP x (C + 1) v ps) (hp : p ≤ C) (i : Nat) (u : Value) : OwnP (x.setCell ⟨p, i, none⟩ u) (C + 1) v ps := h.put (h.far (by omega)) i u
def bnC (n : Nd) (v2 v3 : Value) : List Value := [.string n.n, .int .i64 n.z0, .int .i64 n.z1, .int .i64 n.z2, v2, v3]
def bag_nodeIs (g : Nat) (l : List UInt8) (b : Bool) (w : World) (en : Ending) (w' : World) : Prop := ∃ (n : Nd) (v2 v3 : Value) (r : List UInt8) (f : Bool), en = .returned (.agg (bnC n v2 v3).toArray) ∧ OwnP w' (w.heap.size + 2) v2 n.ls ∧ OwnP w' (w.heap.size + 2) v3 n.ts ∧ Tk w' g r f ∧ Only g w w' ∧ Sp l b ndY SmN n r f ∧ (Took n.ls maxLen ∧ Took n.ts maxLen ∧ n.n.size ≤ maxLen)
set_option maxRecDepth 100000 in
set_option maxHeartbeats 2000000 in
theorem bag_node (g : Nat) (l : List UInt8) (b : Bool) (w : World) (h : Tk w g l b) (hl : l.length ≤ maxLen) :
    Calls Try.prog 29 #[.pointer (some ⟨g, 0, none⟩)] w fun en w' => bag_nodeIs g l b w en w' := by
  have KT := Lib.hid (fun r f z (hz : Tk z g r f) (hr : r.length ≤ l.length) => bag_textS g r f z hz (Nat.le_trans hr hl))
  have KA := Lib.hid (fun r f z (hz : Tk z g r f) (hr : r.length ≤ l.length) => bag_amounts g r f z hz (Nat.le_trans hr hl))
  have KP := Lib.hid (fun r f z (hz : Tk z g r f) (hr : r.length ≤ l.length) => bag_pairs g r f z hz (Nat.le_trans hr hl))
  have HT0 := Lib.hid h
  have HTB := Lib.hid (h.below ((Below.refl _ _).alloc (Nat.le_refl _) (.cells #[.string ⟨#[]⟩, .int .i64 0, .int .i64 0, .int .i64 0, .slice none 0 0, .slice none 0 0] 27)) h.lt)
  clear h hl
  go_enter Try.func29, Try.ntmps29
  have K0 := Lib.hid (KT.out l b _ HTB.out (Nat.le_refl _))
  go_wp2_with fail
  refine K0.out.mono ?_
  rintro e w0 ⟨q0, r0, f0, rfl, hz0, hsp, h1, ho1⟩
  have HZ0 := Lib.hid hz0
  have HP0 := Lib.hid hsp
  have HL0 := Lib.hid hsp.len
  have HS0 := Lib.hid (Ty.made [.string q0, .int .i64 0, .int .i64 0, .int .i64 0, .slice none 0 0, .slice none 0 0] [.string ⟨#[]⟩, .int .i64 0, .int .i64 0, .int .i64 0, .slice none 0 0, .slice none 0 0] 27 27 HT0.out h1 ho1)
  have HG : Hid (g < w0.heap.size) := Lib.hid h1.lt
  have HRC : Hid (w.heap.size ≤ w0.heap.size) := Lib.hid (Nat.le_of_lt HS0.out.lc)
  have hcc : w.heap.size + 2 ≤ w0.heap.size + 1 := by have := HS0.out.lc; omega
  have HCC := Lib.hid hcc
  clear hz0 hsp h1 ho1 hcc
  have K1 := Lib.hid (KA.out r0 f0 _ HS0.out.tk HL0.out)
  go_wp2_with fail
  refine K1.out.mono ?_
  rintro e w1 ⟨a1_0, a1_1, a1_2, r1, f1, rfl, hsp, h1, ho1⟩
  have HP1 := Lib.hid hsp.sp
  have HL1 := Lib.hid (Nat.le_trans hsp.len HL0.out)
  clear hsp
  have HS1 := Lib.hid (HS0.out.go h1 ho1)
  clear h1 ho1
  have c1 : w1.cell? ⟨w0.heap.size, 1, none⟩ = some (.int .i64 0) := HS1.out.bx.cell 1
  have g1 := HS1.out.bx.fz 1
  have c2 : w1.cell? ⟨w0.heap.size, 2, none⟩ = some (.int .i64 0) := HS1.out.bx.cell 2
  have g2 := HS1.out.bx.fz 2
  have c3 : w1.cell? ⟨w0.heap.size, 3, none⟩ = some (.int .i64 0) := HS1.out.bx.cell 3
  have g3 := HS1.out.bx.fz 3
  have HS2 := Lib.hid (((HS1.out.p 1 (.int .i64 (a1_0 : Nat))).p 2 (.int .i64 (a1_1 : Nat))).p 3 (.int .i64 (a1_2 : Nat)))
  have K2 := Lib.hid (KP.out r1 f1 _ HS2.out.tk HL1.out)
  go_wp2_with fail
  refine K2.out.mono ?_
  rintro e w2 ⟨v2, y2, r2, f2, rfl, hr, hto, h1, ho1, hsp⟩
  have HTO2 := Lib.hid hto
  clear hto
  have HP2 := Lib.hid hsp
  have HL2 := Lib.hid (Nat.le_trans hsp.len HL1.out)
  clear hsp
  have HS3 := Lib.hid (HS2.out.go h1 ho1)
  have HO2_2 := Lib.hid (OwnP.less hr HS2.out.bx.lt)
  obtain ⟨sa2, sc2, rfl⟩ := hr.slice
  clear hr
  clear h1 ho1
  clear c1 g1 c2 g2 c3 g3
  have c4 : w2.cell? ⟨w0.heap.size, 4, none⟩ = some (.slice none 0 0) := HS3.out.bx.cell 4
  have g4 := HS3.out.bx.fz 4
  have HO2_2p := Lib.hid (OwnP.cp HO2_2.out (Nat.le_refl _) 4 (.slice sa2 y2.length sc2))
  have HS4 := Lib.hid (HS3.out.p 4 (.slice sa2 y2.length sc2))
  have K3 := Lib.hid (KP.out r2 f2 _ HS4.out.tk HL2.out)
  go_wp2_with fail
  refine K3.out.mono ?_
  rintro e w3 ⟨v3, y3, r3, f3, rfl, hr, hto, h1, ho1, hsp⟩
  have HTO3 := Lib.hid hto
  clear hto
  have HP3 := Lib.hid hsp
  have HL3 := Lib.hid (Nat.le_trans hsp.len HL2.out)
  clear hsp
  have HS5 := Lib.hid (HS4.out.go h1 ho1)
  have HO2_3 := Lib.hid (OwnP.cgo HO2_2p.out HG.out ho1)
  have HO3_3 := Lib.hid (OwnP.less hr HS4.out.bx.lt)
  obtain ⟨sa3, sc3, rfl⟩ := hr.slice
  clear hr
  clear h1 ho1
  clear c4 g4
  have c5 : w3.cell? ⟨w0.heap.size, 5, none⟩ = some (.slice none 0 0) := HS5.out.bx.cell 5
  have g5 := HS5.out.bx.fz 5
  have HO2_3p := Lib.hid (OwnP.cp HO2_3.out (Nat.le_refl _) 5 (.slice sa3 y3.length sc3))
  have HO3_3p := Lib.hid (OwnP.cp HO3_3.out (Nat.le_refl _) 5 (.slice sa3 y3.length sc3))
  have HS6 := Lib.hid (HS5.out.p 5 (.slice sa3 y3.length sc3))
  have c0 : w3.cell? ⟨w0.heap.size, 0, none⟩ = some (.string q0) := HS5.out.bx.cell 0
  have c1 : w3.cell? ⟨w0.heap.size, 1, none⟩ = some (.int .i64 (a1_0 : Nat)) := HS5.out.bx.cell 1
  have c2 : w3.cell? ⟨w0.heap.size, 2, none⟩ = some (.int .i64 (a1_1 : Nat)) := HS5.out.bx.cell 2
  have c3 : w3.cell? ⟨w0.heap.size, 3, none⟩ = some (.int .i64 (a1_2 : Nat)) := HS5.out.bx.cell 3
  have c4 : w3.cell? ⟨w0.heap.size, 4, none⟩ = some (.slice sa2 y2.length sc2) := HS5.out.bx.cell 4
  have d0 : w3.cell? ⟨w.heap.size, 0, none⟩ = some (.string ⟨#[]⟩) := HS5.out.rb.cell 0
  have e0 := HS5.out.rb.fz 0
  have d1 : w3.cell? ⟨w.heap.size, 1, none⟩ = some (.int .i64 0) := HS5.out.rb.cell 1
  have e1 := HS5.out.rb.fz 1
  have d2 : w3.cell? ⟨w.heap.size, 2, none⟩ = some (.int .i64 0) := HS5.out.rb.cell 2
  have e2 := HS5.out.rb.fz 2
  have d3 : w3.cell? ⟨w.heap.size, 3, none⟩ = some (.int .i64 0) := HS5.out.rb.cell 3
  have e3 := HS5.out.rb.fz 3
  have d4 : w3.cell? ⟨w.heap.size, 4, none⟩ = some (.slice none 0 0) := HS5.out.rb.cell 4
  have e4 := HS5.out.rb.fz 4
  have d5 : w3.cell? ⟨w.heap.size, 5, none⟩ = some (.slice none 0 0) := HS5.out.rb.cell 5
  have e5 := HS5.out.rb.fz 5
  have hn1 : ¬ w0.heap.size = w.heap.size := by have := HS0.out.lc; omega
  have hn2 : ¬ w.heap.size = w0.heap.size := by omega
  go_wp2
  refine bodyPost_bx rfl w.heap.size [.string q0, .int .i64 (a1_0 : Nat), .int .i64 (a1_1 : Nat), .int .i64 (a1_2 : Nat), .slice sa2 y2.length sc2, .slice sa3 y3.length sc3] _ rfl rfl ?_ Try.underlying27 rfl rfl ?_
  case refine_1 => exact ((((((HS6.out.q 0 _).q 1 _).q 2 _).q 3 _).q 4 _).q 5 _).rb
  case refine_2 => exact ⟨⟨q0, (a1_0 : Nat), (a1_1 : Nat), (a1_2 : Nat), y2, y3⟩, _, _, r3, f3, rfl, (OwnP.less (OwnP.cp (OwnP.cp (OwnP.cp (OwnP.cp (OwnP.cp (OwnP.cp HO2_3p.out HRC.out 0 _) HRC.out 1 _) HRC.out 2 _) HRC.out 3 _) HRC.out 4 _) HRC.out 5 _) HCC.out), (OwnP.less (OwnP.cp (OwnP.cp (OwnP.cp (OwnP.cp (OwnP.cp (OwnP.cp HO3_3p.out HRC.out 0 _) HRC.out 1 _) HRC.out 2 _) HRC.out 3 _) HRC.out 4 _) HRC.out 5 _) HCC.out), ((((((HS6.out.q 0 _).q 1 _).q 2 _).q 3 _).q 4 _).q 5 _).tk, ((((((HS6.out.q 0 _).q 1 _).q 2 _).q 3 _).q 4 _).q 5 _).on, nd_sp HP0.out HP1.out HP2.out HP3.out, ⟨HTO2.out, HTO3.out, HZ0.out⟩⟩
def btC (n : Td) (v2 v3 : Value) : List Value := [.string n.n, .int .i64 n.z0, .int .i64 n.z1, .int .i64 n.z2, v2, v3, .string n.g, .string n.a, .int .i64 n.r]
def bag_taskIs (g : Nat) (l : List UInt8) (b : Bool) (w : World) (en : Ending) (w' : World) : Prop := ∃ (n : Td) (v2 v3 : Value) (r : List UInt8) (f : Bool), en = .returned (.agg (btC n v2 v3).toArray) ∧ OwnP w' (w.heap.size + 2) v2 n.ws ∧ OwnP w' (w.heap.size + 2) v3 n.bs ∧ Tk w' g r f ∧ Only g w w' ∧ Sp l b tdY SmT n r f ∧ (Took n.ws maxLen ∧ Took n.bs maxLen ∧ n.n.size ≤ maxLen ∧ n.g.size ≤ maxLen ∧ n.a.size ≤ maxLen)
set_option maxRecDepth 100000 in
set_option maxHeartbeats 2000000 in
theorem bag_task (g : Nat) (l : List UInt8) (b : Bool) (w : World) (h : Tk w g l b) (hl : l.length ≤ maxLen) :
    Calls Try.prog 30 #[.pointer (some ⟨g, 0, none⟩)] w fun en w' => bag_taskIs g l b w en w' := by
  have KT := Lib.hid (fun r f z (hz : Tk z g r f) (hr : r.length ≤ l.length) => bag_textS g r f z hz (Nat.le_trans hr hl))
  have KA := Lib.hid (fun r f z (hz : Tk z g r f) (hr : r.length ≤ l.length) => bag_amounts g r f z hz (Nat.le_trans hr hl))
  have KP := Lib.hid (fun r f z (hz : Tk z g r f) (hr : r.length ≤ l.length) => bag_pairs g r f z hz (Nat.le_trans hr hl))
  have KN := Lib.hid (fun r f z (hz : Tk z g r f) (hr : r.length ≤ l.length) => bag_amount g r f z hz (Nat.le_trans hr hl))
  have HT0 := Lib.hid h
  have HTB := Lib.hid (h.below ((Below.refl _ _).alloc (Nat.le_refl _) (.cells #[.string ⟨#[]⟩, .int .i64 0, .int .i64 0, .int .i64 0, .slice none 0 0, .slice none 0 0, .string ⟨#[]⟩, .string ⟨#[]⟩, .int .i64 0] 29)) h.lt)
  clear h hl
  go_enter Try.func30, Try.ntmps30
  have K0 := Lib.hid (KT.out l b _ HTB.out (Nat.le_refl _))
  go_wp2_with fail
  refine K0.out.mono ?_
  rintro e w0 ⟨q0, r0, f0, rfl, hz0, hsp, h1, ho1⟩
  have HZ0 := Lib.hid hz0
  have HP0 := Lib.hid hsp
  have HL0 := Lib.hid hsp.len
  have HS0 := Lib.hid (Ty.made [.string q0, .int .i64 0, .int .i64 0, .int .i64 0, .slice none 0 0, .slice none 0 0, .string ⟨#[]⟩, .string ⟨#[]⟩, .int .i64 0] [.string ⟨#[]⟩, .int .i64 0, .int .i64 0, .int .i64 0, .slice none 0 0, .slice none 0 0, .string ⟨#[]⟩, .string ⟨#[]⟩, .int .i64 0] 29 29 HT0.out h1 ho1)
  have HG : Hid (g < w0.heap.size) := Lib.hid h1.lt
  have HRC : Hid (w.heap.size ≤ w0.heap.size) := Lib.hid (Nat.le_of_lt HS0.out.lc)
  have hcc : w.heap.size + 2 ≤ w0.heap.size + 1 := by have := HS0.out.lc; omega
  have HCC := Lib.hid hcc
  clear hz0 hsp h1 ho1 hcc
  have K1 := Lib.hid (KA.out r0 f0 _ HS0.out.tk HL0.out)
  go_wp2_with fail
  refine K1.out.mono ?_
  rintro e w1 ⟨a1_0, a1_1, a1_2, r1, f1, rfl, hsp, h1, ho1⟩
  have HP1 := Lib.hid hsp.sp
  have HL1 := Lib.hid (Nat.le_trans hsp.len HL0.out)
  clear hsp
  have HS1 := Lib.hid (HS0.out.go h1 ho1)
  clear h1 ho1
  have c1 : w1.cell? ⟨w0.heap.size, 1, none⟩ = some (.int .i64 0) := HS1.out.bx.cell 1
  have g1 := HS1.out.bx.fz 1
  have c2 : w1.cell? ⟨w0.heap.size, 2, none⟩ = some (.int .i64 0) := HS1.out.bx.cell 2
  have g2 := HS1.out.bx.fz 2
  have c3 : w1.cell? ⟨w0.heap.size, 3, none⟩ = some (.int .i64 0) := HS1.out.bx.cell 3
  have g3 := HS1.out.bx.fz 3
  have HS2 := Lib.hid (((HS1.out.p 1 (.int .i64 (a1_0 : Nat))).p 2 (.int .i64 (a1_1 : Nat))).p 3 (.int .i64 (a1_2 : Nat)))
  have K2 := Lib.hid (KP.out r1 f1 _ HS2.out.tk HL1.out)
  go_wp2_with fail
  refine K2.out.mono ?_
  rintro e w2 ⟨v2, y2, r2, f2, rfl, hr, hto, h1, ho1, hsp⟩
  have HTO2 := Lib.hid hto
  clear hto
  have HP2 := Lib.hid hsp
  have HL2 := Lib.hid (Nat.le_trans hsp.len HL1.out)
  clear hsp
  have HS3 := Lib.hid (HS2.out.go h1 ho1)
  have HO2_2 := Lib.hid (OwnP.less hr HS2.out.bx.lt)
  obtain ⟨sa2, sc2, rfl⟩ := hr.slice
  clear hr
  clear h1 ho1
  clear c1 g1 c2 g2 c3 g3
  have c4 : w2.cell? ⟨w0.heap.size, 4, none⟩ = some (.slice none 0 0) := HS3.out.bx.cell 4
  have g4 := HS3.out.bx.fz 4
  have HO2_2p := Lib.hid (OwnP.cp HO2_2.out (Nat.le_refl _) 4 (.slice sa2 y2.length sc2))
  have HS4 := Lib.hid (HS3.out.p 4 (.slice sa2 y2.length sc2))
  have K3 := Lib.hid (KP.out r2 f2 _ HS4.out.tk HL2.out)
  go_wp2_with fail
  refine K3.out.mono ?_
  rintro e w3 ⟨v3, y3, r3, f3, rfl, hr, hto, h1, ho1, hsp⟩
  have HTO3 := Lib.hid hto
  clear hto
  have HP3 := Lib.hid hsp
  have HL3 := Lib.hid (Nat.le_trans hsp.len HL2.out)
  clear hsp
  have HS5 := Lib.hid (HS4.out.go h1 ho1)
  have HO2_3 := Lib.hid (OwnP.cgo HO2_2p.out HG.out ho1)
  have HO3_3 := Lib.hid (OwnP.less hr HS4.out.bx.lt)
  obtain ⟨sa3, sc3, rfl⟩ := hr.slice
  clear hr
  clear h1 ho1
  clear c4 g4
  have c5 : w3.cell? ⟨w0.heap.size, 5, none⟩ = some (.slice none 0 0) := HS5.out.bx.cell 5
  have g5 := HS5.out.bx.fz 5
  have HO2_3p := Lib.hid (OwnP.cp HO2_3.out (Nat.le_refl _) 5 (.slice sa3 y3.length sc3))
  have HO3_3p := Lib.hid (OwnP.cp HO3_3.out (Nat.le_refl _) 5 (.slice sa3 y3.length sc3))
  have HS6 := Lib.hid (HS5.out.p 5 (.slice sa3 y3.length sc3))
  have K4 := Lib.hid (KT.out r3 f3 _ HS6.out.tk HL3.out)
  go_wp2_with fail
  refine K4.out.mono ?_
  rintro e w4 ⟨q4, r4, f4, rfl, hz4, hsp, h1, ho1⟩
  have HZ4 := Lib.hid hz4
  clear hz4
  have HP4 := Lib.hid hsp
  have HL4 := Lib.hid (Nat.le_trans hsp.len HL3.out)
  clear hsp
  have HS7 := Lib.hid (HS6.out.go h1 ho1)
  have HO2_4 := Lib.hid (OwnP.cgo HO2_3p.out HG.out ho1)
  have HO3_4 := Lib.hid (OwnP.cgo HO3_3p.out HG.out ho1)
  clear h1 ho1
  clear c5 g5
  have c6 : w4.cell? ⟨w0.heap.size, 6, none⟩ = some (.string ⟨#[]⟩) := HS7.out.bx.cell 6
  have g6 := HS7.out.bx.fz 6
  have HO2_4p := Lib.hid (OwnP.cp HO2_4.out (Nat.le_refl _) 6 (.string q4))
  have HO3_4p := Lib.hid (OwnP.cp HO3_4.out (Nat.le_refl _) 6 (.string q4))
  have HS8 := Lib.hid (HS7.out.p 6 (.string q4))
  have K5 := Lib.hid (KT.out r4 f4 _ HS8.out.tk HL4.out)
  go_wp2_with fail
  refine K5.out.mono ?_
  rintro e w5 ⟨q5, r5, f5, rfl, hz5, hsp, h1, ho1⟩
  have HZ5 := Lib.hid hz5
  clear hz5
  have HP5 := Lib.hid hsp
  have HL5 := Lib.hid (Nat.le_trans hsp.len HL4.out)
  clear hsp
  have HS9 := Lib.hid (HS8.out.go h1 ho1)
  have HO2_5 := Lib.hid (OwnP.cgo HO2_4p.out HG.out ho1)
  have HO3_5 := Lib.hid (OwnP.cgo HO3_4p.out HG.out ho1)
  clear h1 ho1
  clear c6 g6
  have c7 : w5.cell? ⟨w0.heap.size, 7, none⟩ = some (.string ⟨#[]⟩) := HS9.out.bx.cell 7
  have g7 := HS9.out.bx.fz 7
  have HO2_5p := Lib.hid (OwnP.cp HO2_5.out (Nat.le_refl _) 7 (.string q5))
  have HO3_5p := Lib.hid (OwnP.cp HO3_5.out (Nat.le_refl _) 7 (.string q5))
  have HS10 := Lib.hid (HS9.out.p 7 (.string q5))
  have K6 := Lib.hid (KN.out r5 f5 _ HS10.out.tk HL5.out)
  go_wp2_with fail
  refine K6.out.mono ?_
  rintro e w6 ⟨rk6, r6, f6, rfl, hrk6, h1, ho1, hsp⟩
  have HP6 := Lib.hid hsp
  have HL6 := Lib.hid (Nat.le_trans hsp.len HL5.out)
  clear hsp
  have HS11 := Lib.hid (HS10.out.go h1 ho1)
  have HO2_6 := Lib.hid (OwnP.cgo HO2_5p.out HG.out ho1)
  have HO3_6 := Lib.hid (OwnP.cgo HO3_5p.out HG.out ho1)
  clear h1 ho1
  have tr : IntKind.i64.wrap ((rk6 : Nat) : Int) = ((rk6 : Nat) : Int) := by rw [IntKind.wrap_i64]; omega
  have tq : IntKind.i64.wrap (((rk6 : Nat) : Int) - 1000) = ((rk6 : Nat) : Int) - 1000 := by rw [IntKind.wrap_i64]; omega
  clear hrk6
  clear c7 g7
  have c8 : w6.cell? ⟨w0.heap.size, 8, none⟩ = some (.int .i64 0) := HS11.out.bx.cell 8
  have g8 := HS11.out.bx.fz 8
  have HO2_6p := Lib.hid (OwnP.cp HO2_6.out (Nat.le_refl _) 8 (.int .i64 (((rk6 : Nat) : Int) - 1000)))
  have HO3_6p := Lib.hid (OwnP.cp HO3_6.out (Nat.le_refl _) 8 (.int .i64 (((rk6 : Nat) : Int) - 1000)))
  have HS12 := Lib.hid (HS11.out.p 8 (.int .i64 (((rk6 : Nat) : Int) - 1000)))
  have c0 : w6.cell? ⟨w0.heap.size, 0, none⟩ = some (.string q0) := HS11.out.bx.cell 0
  have c1 : w6.cell? ⟨w0.heap.size, 1, none⟩ = some (.int .i64 (a1_0 : Nat)) := HS11.out.bx.cell 1
  have c2 : w6.cell? ⟨w0.heap.size, 2, none⟩ = some (.int .i64 (a1_1 : Nat)) := HS11.out.bx.cell 2
  have c3 : w6.cell? ⟨w0.heap.size, 3, none⟩ = some (.int .i64 (a1_2 : Nat)) := HS11.out.bx.cell 3
  have c4 : w6.cell? ⟨w0.heap.size, 4, none⟩ = some (.slice sa2 y2.length sc2) := HS11.out.bx.cell 4
  have c5 : w6.cell? ⟨w0.heap.size, 5, none⟩ = some (.slice sa3 y3.length sc3) := HS11.out.bx.cell 5
  have c6 : w6.cell? ⟨w0.heap.size, 6, none⟩ = some (.string q4) := HS11.out.bx.cell 6
  have c7 : w6.cell? ⟨w0.heap.size, 7, none⟩ = some (.string q5) := HS11.out.bx.cell 7
  have d0 : w6.cell? ⟨w.heap.size, 0, none⟩ = some (.string ⟨#[]⟩) := HS11.out.rb.cell 0
  have e0 := HS11.out.rb.fz 0
  have d1 : w6.cell? ⟨w.heap.size, 1, none⟩ = some (.int .i64 0) := HS11.out.rb.cell 1
  have e1 := HS11.out.rb.fz 1
  have d2 : w6.cell? ⟨w.heap.size, 2, none⟩ = some (.int .i64 0) := HS11.out.rb.cell 2
  have e2 := HS11.out.rb.fz 2
  have d3 : w6.cell? ⟨w.heap.size, 3, none⟩ = some (.int .i64 0) := HS11.out.rb.cell 3
  have e3 := HS11.out.rb.fz 3
  have d4 : w6.cell? ⟨w.heap.size, 4, none⟩ = some (.slice none 0 0) := HS11.out.rb.cell 4
  have e4 := HS11.out.rb.fz 4
  have d5 : w6.cell? ⟨w.heap.size, 5, none⟩ = some (.slice none 0 0) := HS11.out.rb.cell 5
  have e5 := HS11.out.rb.fz 5
  have d6 : w6.cell? ⟨w.heap.size, 6, none⟩ = some (.string ⟨#[]⟩) := HS11.out.rb.cell 6
  have e6 := HS11.out.rb.fz 6
  have d7 : w6.cell? ⟨w.heap.size, 7, none⟩ = some (.string ⟨#[]⟩) := HS11.out.rb.cell 7
  have e7 := HS11.out.rb.fz 7
  have d8 : w6.cell? ⟨w.heap.size, 8, none⟩ = some (.int .i64 0) := HS11.out.rb.cell 8
  have e8 := HS11.out.rb.fz 8
  have hn1 : ¬ w0.heap.size = w.heap.size := by have := HS0.out.lc; omega
  have hn2 : ¬ w.heap.size = w0.heap.size := by omega
  go_wp2
  refine bodyPost_bx rfl w.heap.size [.string q0, .int .i64 (a1_0 : Nat), .int .i64 (a1_1 : Nat), .int .i64 (a1_2 : Nat), .slice sa2 y2.length sc2, .slice sa3 y3.length sc3, .string q4, .string q5, .int .i64 (((rk6 : Nat) : Int) - 1000)] _ rfl rfl ?_ Try.underlying29 rfl rfl ?_
  case refine_1 => exact (((((((((HS12.out.q 0 _).q 1 _).q 2 _).q 3 _).q 4 _).q 5 _).q 6 _).q 7 _).q 8 _).rb
  case refine_2 => exact ⟨⟨q0, (a1_0 : Nat), (a1_1 : Nat), (a1_2 : Nat), y2, y3, q4, q5, ((rk6 : Nat) : Int) - 1000⟩, _, _, r6, f6, rfl, (OwnP.less (OwnP.cp (OwnP.cp (OwnP.cp (OwnP.cp (OwnP.cp (OwnP.cp (OwnP.cp (OwnP.cp (OwnP.cp HO2_6p.out HRC.out 0 _) HRC.out 1 _) HRC.out 2 _) HRC.out 3 _) HRC.out 4 _) HRC.out 5 _) HRC.out 6 _) HRC.out 7 _) HRC.out 8 _) HCC.out), (OwnP.less (OwnP.cp (OwnP.cp (OwnP.cp (OwnP.cp (OwnP.cp (OwnP.cp (OwnP.cp (OwnP.cp (OwnP.cp HO3_6p.out HRC.out 0 _) HRC.out 1 _) HRC.out 2 _) HRC.out 3 _) HRC.out 4 _) HRC.out 5 _) HRC.out 6 _) HRC.out 7 _) HRC.out 8 _) HCC.out), (((((((((HS12.out.q 0 _).q 1 _).q 2 _).q 3 _).q 4 _).q 5 _).q 6 _).q 7 _).q 8 _).tk, (((((((((HS12.out.q 0 _).q 1 _).q 2 _).q 3 _).q 4 _).q 5 _).q 6 _).q 7 _).q 8 _).on, td_sp HP0.out HP1.out HP2.out HP3.out HP4.out HP5.out HP6.out, ⟨HTO2.out, HTO3.out, HZ0.out, HZ4.out, HZ5.out⟩⟩
end Hd
end Go.Proofs.Ythlchdlgafincaa

/-
  THE DOCUMENT'S BAG: where the reading of a command stands, and what its end means.
-/
namespace Go.Proofs.Ythlchdlgafincaa
open Go.RowKit
namespace Hd
open PM Hc
def hdF (p : (Nat × Nat) × Nat) : List UInt8 := num p.1.1 ++ num p.1.2 ++ num p.2
def hdS (p : (Nat × Nat) × Nat) : Prop := (p.1.1 < 2 ^ 64 ∧ p.1.2 < 2 ^ 64) ∧ p.2 < 2 ^ 64
def Hdr (l : List UInt8) (n0 n1 k : Nat) (r : List UInt8) (f : Bool) : Prop := Sp l false hdF hdS ((n0, n1), k) r f
theorem Hdr.snd {l r : List UInt8} {n0 n1 k : Nat} {f : Bool} (h : Hdr l n0 n1 k r f) (hf : f = false) : num n0 ++ num n1 ++ num k ++ r = l := (Sp.snd h hf).2
theorem Hdr.cpl {l r : List UInt8} {n0 n1 k : Nat} {f : Bool} (h : Hdr l n0 n1 k r f) (u : Cd) (hb : Bnd u) (e : l = cmY u) : f = false ∧ n0 = u.cl ∧ n1 = u.sq ∧ k = u.k ∧ r = fdY u := by
  obtain ⟨a, c, d⟩ := Sp.cpl h ((u.cl, u.sq), u.k) (fdY u) ⟨⟨hb.cl, hb.sq⟩, by have := hb.k; omega⟩ e rfl
  simp only [Prod.mk.injEq] at c
  exact ⟨a, c.1.1, c.1.2, c.2, d⟩
/-- What was read, what is left, whether something was wrong. -/
structure Vd (l : List UInt8) (c : Cd) (r : List UInt8) (f : Bool) : Prop where
  snd : f = false → cmY c ++ r = l
  cpl : ∀ u, ckB u = true → Bnd u → l = cmY u → f = false ∧ c = u ∧ r = []
theorem dc_no {l : List UInt8} (hl : l.length ≤ maxLen) (h : ∀ u, ckB u = true → Bnd u → l = cmY u → False) : dcOk l = false := by
  cases hd : dcOk l with
  | false => rfl
  | true =>
    exfalso
    obtain ⟨a, b⟩ := cm_forth hd
    exact h (cmT l) b (cmT_took l hl).2.2 a.symm
theorem Vd.nof {l : List UInt8} {c : Cd} {r : List UInt8} (h : Vd l c r true) (hl : l.length ≤ maxLen) : dcOk l = false := dc_no hl fun u a b e => by have := (h.cpl u a b e).1; cases this
theorem Vd.nor {l : List UInt8} {c : Cd} {r : List UInt8} {f : Bool} (h : Vd l c r f) (hl : l.length ≤ maxLen) (hr : ¬ r = []) : dcOk l = false := dc_no hl fun u a b e => hr (h.cpl u a b e).2.2
theorem Vd.noc {l : List UInt8} {c : Cd} {r : List UInt8} {f : Bool} (h : Vd l c r f) (hl : l.length ≤ maxLen) (hc : ckB c = false) : dcOk l = false := dc_no hl fun u a b e => by
  rw [(h.cpl u a b e).2.1, a] at hc
  cases hc
theorem Vd.yes {l : List UInt8} {c : Cd} (h : Vd l c [] false) (hb : Bnd c) (hc : ckB c = true) : dcOk l = true ∧ cmT l = c := by
  have e := h.snd rfl
  rw [List.append_nil] at e
  obtain ⟨a, b⟩ := dc_whole hc hb
  rw [e] at a b
  exact ⟨a, by unfold dcT at b; rwa [if_pos a] at b⟩
theorem ck_kind {u : Cd} (h : ckB u = true) : 1 ≤ u.k ∧ u.k ≤ 7 := by
  cases (ck_form h).1 with
  | node => show 1 ≤ 1 ∧ 1 ≤ 7; omega
  | task => show 1 ≤ 3 ∧ 3 ≤ 7; omega
  | bind => show 1 ≤ 5 ∧ 5 ≤ 7; omega
  | name cl sq k na hk => show 1 ≤ k ∧ k ≤ 7; omega
theorem Hdr.nof {l r : List UInt8} {n0 n1 k : Nat} (h : Hdr l n0 n1 k r true) (hl : l.length ≤ maxLen) : dcOk l = false := dc_no hl fun u _ b e => by have := (h.cpl u b e).1; cases this
theorem Hdr.nok {l r : List UInt8} {n0 n1 k : Nat} {f : Bool} (h : Hdr l n0 n1 k r f) (hl : l.length ≤ maxLen) (hk : k = 0 ∨ 8 ≤ k) : dcOk l = false := dc_no hl fun u a b e => by
  have h1 := (h.cpl u b e).2.2.2.1
  have h2 := ck_kind a
  omega
theorem Hdr.node {l r3 r : List UInt8} {n0 n1 : Nat} {f : Bool} {n : Nd} (h : Hdr l n0 n1 1 r3 false) (k : Sp r3 false ndY SmN n r f) : Vd l ⟨n0, n1, 1, n, td0, ⟨#[]⟩, ⟨#[]⟩, 0⟩ r f := by
  refine ⟨fun hf => ?_, fun u hu hb e => ?_⟩
  · have h1 := (k.snd hf).2
    have h2 := h.snd rfl
    rw [← h2, ← h1]
    show num n0 ++ num n1 ++ num 1 ++ ndY n ++ r = _
    simp only [List.append_assoc]
  · obtain ⟨-, e0, e1, ek, er⟩ := h.cpl u hb e
    cases (ck_form hu).1 with
    | node cl sq nd hn =>
      subst e0 e1
      obtain ⟨a, c, d⟩ := k.cpl nd [] (nE_small hn) (by rw [er, List.append_nil]; exact if_pos rfl) rfl
      exact ⟨a, by rw [c], d⟩
    | task => cases ek
    | bind => cases ek
    | name cl sq k na hk => exfalso; simp only at ek; omega
theorem Hdr.task {l r3 r : List UInt8} {n0 n1 : Nat} {f : Bool} {n : Td} (h : Hdr l n0 n1 3 r3 false) (k : Sp r3 false tdY SmT n r f) : Vd l ⟨n0, n1, 3, nd0, n, ⟨#[]⟩, ⟨#[]⟩, 0⟩ r f := by
  refine ⟨fun hf => ?_, fun u hu hb e => ?_⟩
  · have h1 := (k.snd hf).2
    have h2 := h.snd rfl
    rw [← h2, ← h1]
    show num n0 ++ num n1 ++ num 3 ++ tdY n ++ r = _
    simp only [List.append_assoc]
  · obtain ⟨-, e0, e1, ek, er⟩ := h.cpl u hb e
    cases (ck_form hu).1 with
    | task cl sq td hn =>
      subst e0 e1
      obtain ⟨a, c, d⟩ := k.cpl td [] (tE_small hn) (by rw [er, List.append_nil]; rfl) rfl
      exact ⟨a, by rw [c], d⟩
    | node => cases ek
    | bind => cases ek
    | name cl sq k na hk => exfalso; simp only at ek; omega
theorem Hdr.bind {l r3 r4 r5 r : List UInt8} {n0 n1 fe : Nat} {f4 f5 f : Bool} {q s : ByteArray} (h : Hdr l n0 n1 5 r3 false) (k4 : Sp r3 false txF txS q r4 f4) (k5 : Sp r4 f4 txF txS s r5 f5) (k6 : Sp r5 f5 num (fun n => n < 2 ^ 64) fe r f) : Vd l ⟨n0, n1, 5, nd0, td0, q, s, fe⟩ r f := by
  have k := (k4.and k5).and k6
  refine ⟨fun hf => ?_, fun u hu hb e => ?_⟩
  · have h1 := (k.snd hf).2
    have h2 := h.snd rfl
    rw [← h2, ← h1]
    show num n0 ++ num n1 ++ num 5 ++ (txt q.data.toList ++ txt s.data.toList ++ num fe) ++ r = num n0 ++ num n1 ++ num 5 ++ (txt q.data.toList ++ txt s.data.toList ++ num fe ++ r)
    simp only [List.append_assoc]
  · obtain ⟨-, e0, e1, ek, er⟩ := h.cpl u hb e
    cases (ck_form hu).1 with
    | bind cl sq na on fe2 h1 h2 =>
      subst e0 e1
      obtain ⟨a, c, d⟩ := k.cpl ((na, on), fe2) [] ⟨⟨nm_small h1, nm_small h2⟩, hb.fe⟩ (by rw [er, List.append_nil]; rfl) rfl
      simp only [Prod.mk.injEq] at c
      exact ⟨a, by rw [c.1.1, c.1.2, c.2], d⟩
    | node => cases ek
    | task => cases ek
    | name cl sq k na hk => exfalso; simp only at ek; omega
theorem Hdr.name {l r3 r : List UInt8} {n0 n1 k : Nat} {f : Bool} {q : ByteArray} (h : Hdr l n0 n1 k r3 false) (k1 : ¬ k = 1) (k3 : ¬ k = 3) (k5 : ¬ k = 5) (k4 : Sp r3 false txF txS q r f) : Vd l ⟨n0, n1, k, nd0, td0, q, ⟨#[]⟩, 0⟩ r f := by
  have ef : ∀ s : ByteArray, fdY ⟨n0, n1, k, nd0, td0, s, ⟨#[]⟩, 0⟩ = txt s.data.toList := fun s => (if_neg k1).trans ((if_neg k3).trans (if_neg k5))
  refine ⟨fun hf => ?_, fun u hu hb e => ?_⟩
  · have h1 := (k4.snd hf).2
    have h2 := h.snd rfl
    rw [← h2, ← h1]
    unfold cmY
    rw [ef]
    show num n0 ++ num n1 ++ num k ++ txt q.data.toList ++ r = num n0 ++ num n1 ++ num k ++ (txt q.data.toList ++ r)
    simp only [List.append_assoc]
  · obtain ⟨-, e0, e1, ek, er⟩ := h.cpl u hb e
    cases (ck_form hu).1 with
    | name cl sq kk na hk h1 =>
      subst e0 e1 ek
      rw [ef] at er
      obtain ⟨a, c, d⟩ := k4.cpl na [] (nm_small h1) (by rw [er, List.append_nil]; rfl) rfl
      exact ⟨a, by rw [c], d⟩
    | node => exact absurd ek k1
    | task => exact absurd ek k3
    | bind => exact absurd ek k5
theorem heap_mid (R : Nat) (T : TypeId) : ∀ (vs : List Value) (o : Nat) (w : World) (cs : List Value), w.heap[R]? = some (.cells cs.toArray T (0, 0)) → o + vs.length ≤ cs.length →
    (w.setCells R o vs).heap[R]? = some (.cells (cs.take o ++ vs ++ cs.drop (o + vs.length)).toArray T (0, 0))
  | [], o, w, cs, h, hl => by
    rw [List.append_nil, List.length_nil, Nat.add_zero, List.take_append_drop]
    exact h
  | v :: r, o, w, cs, h, hl => by
    rw [World.setCells]
    have hlt : o < cs.length := by simp at hl; omega
    have h1 : (w.setCell ⟨R, o, none⟩ v).heap[R]? = some (.cells (cs.set o v).toArray T (0, 0)) := by simp [World.setCell, Array.getElem?_modify, h]
    rw [heap_mid R T r (o + 1) _ (cs.set o v) h1 (by simp at hl ⊢; omega)]
    have e : (cs.set o v).take (o + 1) = cs.take o ++ [v] := by
      rw [List.set_eq_take_append_cons_drop, if_pos hlt, List.take_append]
      have hl2 : (cs.take o).length = o := by rw [List.length_take]; omega
      rw [hl2, List.take_of_length_le (by omega), show o + 1 - o = 1 by omega]
      rfl
    have e2 : (cs.set o v).drop (o + 1 + r.length) = cs.drop (o + (v :: r).length) := by
      rw [List.drop_set_of_lt (by omega), List.length_cons, show o + 1 + r.length = o + (r.length + 1) by omega]
    rw [e, e2, List.append_assoc (List.take o cs) [v] r]
    rfl
theorem Bxn.mid {w : World} {R : Nat} {cs : List Value} (h : Bxn w R cs) (o : Nat) (vs : List Value) (hl : o + vs.length ≤ cs.length) : Bxn (w.setCells R o vs) R (cs.take o ++ vs ++ cs.drop (o + vs.length)) := by
  obtain ⟨T, h⟩ := h
  exact ⟨T, heap_mid R T vs o w cs h hl⟩
theorem Bxn.mthere {w : World} {R : Nat} {rs : List Value} (h : Bxn w R rs) (o n : Nat) (hn : o + n ≤ rs.length) : w.there R o n := fun j hj => by
  refine ⟨?_, h.fz (o + j)⟩
  rw [h.cell, List.getElem?_eq_getElem (by omega)]
  rfl
/-- Where the reading stands: the bag g, the command's box C, the result's box. -/
structure Dz (w0 : World) (g C : Nat) (l : List UInt8) (b : Bool) (cs rs : List Value) (x : World) : Prop where
  tk : Tk x g l b
  bx : Bxn x C cs
  rb : Bxn x w0.heap.size rs
  be : Below w0.heap.size w0 x
  lg : w0.heap.size < g
  lc : g < C
theorem Dz.made {w W0 x1 : World} {l r : List UInt8} {b f : Bool} (cs rs : List Value) (T T2 : TypeId) (hz : Bxn W0 w.heap.size rs) (hb : Below w.heap.size w W0) (ht : Tk x1 W0.heap.size r f)
    (ho : Only W0.heap.size (W0.alloc (.cells #[.string (bs l), .bool b] T)) x1) : Dz w W0.heap.size x1.heap.size r f cs rs (x1.alloc (.cells cs.toArray T2)) := by
  have hl := hz.lt
  have hs := ho.size
  rw [World.size_alloc] at hs
  have h1 : Below W0.heap.size W0 (W0.alloc (.cells #[.string (bs l), .bool b] T)) := (Below.refl _ _).alloc (Nat.le_refl _) _
  have h2 : Below x1.heap.size x1 (x1.alloc (.cells cs.toArray T2)) := (Below.refl _ _).alloc (Nat.le_refl _) _
  have h3 : Below w.heap.size (W0.alloc (.cells #[.string (bs l), .bool b] T)) x1 := ho.below (by rw [World.size_alloc]; omega) (by omega)
  exact ⟨ht.below h2 ht.lt, Bxn.made x1 cs T2, ((hz.below h1).only ho (by omega)).below h2, ((hb.trans (h1.mono (by omega))).trans h3).trans (h2.mono (by omega)), hl, by omega⟩
theorem Dz.go {w0 : World} {g C : Nat} {l l2 : List UInt8} {b b2 : Bool} {cs rs : List Value} {x x' : World} (h : Dz w0 g C l b cs rs x) (ht : Tk x' g l2 b2) (ho : Only g x x') : Dz w0 g C l2 b2 cs rs x' :=
  ⟨ht, h.bx.only ho (by have := h.lc; omega), h.rb.only ho (by have := h.lg; omega), h.be.trans (ho.below h.be.size (by have := h.lg; omega)), h.lg, h.lc⟩
theorem Dz.p {w0 : World} {g C : Nat} {l : List UInt8} {b : Bool} {cs rs : List Value} {x : World} (h : Dz w0 g C l b cs rs x) (i : Nat) (u : Value) : Dz w0 g C l b (cs.set i u) rs (x.setCell ⟨C, i, none⟩ u) :=
  ⟨h.tk.far (by have := h.lc; omega) i u, h.bx.set i u, h.rb.apart (by have := h.lc; have := h.lg; omega) i u, h.be.setCell (by have := h.lc; have := h.lg; show _ ≤ C; omega) u, h.lg, h.lc⟩
theorem Dz.all {w0 : World} {g C : Nat} {l : List UInt8} {b : Bool} {cs rs : List Value} {x : World} (h : Dz w0 g C l b cs rs x) (vs : List Value) (hl : vs.length = rs.length) : Bxn (x.setCells w0.heap.size 0 vs) w0.heap.size vs ∧ Below w0.heap.size w0 (x.setCells w0.heap.size 0 vs) := by
  have ho := only_setCells w0.heap.size vs 0 x
  exact ⟨h.rb.all vs hl, h.be.trans (ho.below h.be.size (Nat.le_refl _))⟩
theorem Dz.call {w0 : World} {g C : Nat} {l : List UInt8} {b : Bool} {cs rs : List Value} {x : World} (h : Dz w0 g C l b cs rs x) (vs : List Value) (hl : vs.length = cs.length) : Dz w0 g C l b vs rs (x.setCells C 0 vs) := by
  have ho := only_setCells C vs 0 x
  have h2 := h.lc
  have h3 := h.lg
  exact ⟨h.tk.off ho (by omega), h.bx.all vs hl, h.rb.only ho (by omega), h.be.trans (ho.below h.be.size (by omega)), h3, h2⟩
/-- With the order's box O. -/
structure Dy (w0 : World) (g C O : Nat) (l : List UInt8) (b : Bool) (cs os rs : List Value) (x : World) : Prop where
  z : Dz w0 g C l b cs rs x
  ob : Bxn x O os
  lo : C < O
theorem Dy.made {w0 : World} {g C : Nat} {l : List UInt8} {b : Bool} {cs rs : List Value} {x : World} (os : List Value) (T : TypeId) (h : Dz w0 g C l b cs rs x) : Dy w0 g C x.heap.size l b cs os rs (x.alloc (.cells os.toArray T)) := by
  have h2 : Below x.heap.size x (x.alloc (.cells os.toArray T)) := (Below.refl _ _).alloc (Nat.le_refl _) _
  exact ⟨⟨h.tk.below h2 h.tk.lt, h.bx.below h2, h.rb.below h2, h.be.trans (h2.mono h.be.size), h.lg, h.lc⟩, Bxn.made x os T, h.bx.lt⟩
theorem Dy.go {w0 : World} {g C O : Nat} {l l2 : List UInt8} {b b2 : Bool} {cs os rs : List Value} {x x' : World} (h : Dy w0 g C O l b cs os rs x) (ht : Tk x' g l2 b2) (ho : Only g x x') : Dy w0 g C O l2 b2 cs os rs x' :=
  ⟨h.z.go ht ho, h.ob.only ho (by have := h.lo; have := h.z.lc; omega), h.lo⟩
theorem Dy.off {w0 : World} {g C O : Nat} {l : List UInt8} {b : Bool} {cs os os2 rs : List Value} {x x' : World} (h : Dy w0 g C O l b cs os rs x) (ho : Only O x x') (hx : Bxn x' O os2) : Dy w0 g C O l b cs os2 rs x' := by
  have h1 := h.lo
  have h2 := h.z.lc
  have h3 := h.z.lg
  exact ⟨⟨h.z.tk.off ho (by omega), h.z.bx.only ho (by omega), h.z.rb.only ho (by omega), h.z.be.trans (ho.below h.z.be.size (by omega)), h3, h2⟩, hx, h1⟩
theorem Dy.p {w0 : World} {g C O : Nat} {l : List UInt8} {b : Bool} {cs os rs : List Value} {x : World} (h : Dy w0 g C O l b cs os rs x) (i : Nat) (u : Value) : Dy w0 g C O l b cs (os.set i u) rs (x.setCell ⟨O, i, none⟩ u) :=
  h.off ((Only.refl O x).set i u) (h.ob.set i u)
theorem Dy.oall {w0 : World} {g C O : Nat} {l : List UInt8} {b : Bool} {cs os rs : List Value} {x : World} (h : Dy w0 g C O l b cs os rs x) (vs : List Value) (hl : vs.length = os.length) : Dy w0 g C O l b cs vs rs (x.setCells O 0 vs) :=
  h.off (only_setCells O vs 0 x) (h.ob.all vs hl)
theorem Dy.mid {w0 : World} {g C O : Nat} {l : List UInt8} {b : Bool} {cs os rs : List Value} {x : World} (h : Dy w0 g C O l b cs os rs x) (o : Nat) (vs : List Value) (hl : o + vs.length ≤ os.length) : Dy w0 g C O l b cs (os.take o ++ vs ++ os.drop (o + vs.length)) rs (x.setCells O o vs) :=
  h.off (only_setCells O vs o x) (h.ob.mid o vs hl)
theorem Dy.com {w0 : World} {g C O : Nat} {l : List UInt8} {b : Bool} {cs os rs : List Value} {x : World} (h : Dy w0 g C O l b cs os rs x) (o : Nat) (vs : List Value) (hl : o + vs.length ≤ cs.length) : Dz w0 g C l b (cs.take o ++ vs ++ cs.drop (o + vs.length)) rs (x.setCells C o vs) := by
  have ho := only_setCells C vs o x
  have h2 := h.z.lc
  have h3 := h.z.lg
  exact ⟨h.z.tk.off ho (by omega), h.z.bx.mid o vs hl, h.z.rb.only ho (by omega), h.z.be.trans (ho.below h.z.be.size (by omega)), h3, h2⟩
theorem Dz.below {w0 x x' : World} {g C : Nat} {l : List UInt8} {b : Bool} {cs rs : List Value} (h : Dz w0 g C l b cs rs x) (hb : Below x.heap.size x x') : Dz w0 g C l b cs rs x' :=
  ⟨h.tk.below hb h.tk.lt, h.bx.below hb, h.rb.below hb, h.be.trans (hb.mono h.be.size), h.lg, h.lc⟩
end Hd
end Go.Proofs.Ythlchdlgafincaa

/-
  gafferref09.Decode.
-/
namespace Go.Proofs.Ythlchdlgafincaa
open Go.RowKit
namespace Hd
open PM Hc
set_option maxRecDepth 100000 in
set_option maxHeartbeats 2000000 in
theorem dcd_bad (l : List UInt8) (w : World) (hl : l.length ≤ maxLen) (hf : (((false || decide (tnW l ≠ 0)) || decide (tnW (tnR l) ≠ 0)) || decide (tnW (tnR (tnR l)) ≠ 0)) = true) :
    Calls Try.prog 13 #[.string (bs l)] w fun e w' => DcIs l w.heap.size e w' ∧ Below w.heap.size w w' := by
  have HD0 : Hdr l (tnN l) (tnN (tnR l)) (tnN (tnR (tnR l))) (tnR (tnR (tnR l))) (((false || decide (tnW l ≠ 0)) || decide (tnW (tnR l) ≠ 0)) || decide (tnW (tnR (tnR l)) ≠ 0)) := ((sp_num l false).and (sp_num (tnR l) _)).and (sp_num (tnR (tnR l)) _)
  have K0 := Lib.hid (fun g z (hz : Tk z g l false) => bag_number g l false z hz hl)
  have K1 := Lib.hid (fun g z (hz : Tk z g (tnR l) (false || decide (tnW l ≠ 0))) => bag_number g (tnR l) _ z hz (Nat.le_trans (tnR_length l) hl))
  have K2 := Lib.hid (fun g z (hz : Tk z g (tnR (tnR l)) ((false || decide (tnW l ≠ 0)) || decide (tnW (tnR l) ≠ 0))) => bag_number g (tnR (tnR l)) _ z hz (Nat.le_trans (tnR_length _) (Nat.le_trans (tnR_length l) hl)))
  have HL3 := Lib.hid (Nat.le_trans (tnR_length (tnR (tnR l))) (Nat.le_trans (tnR_length (tnR l)) (tnR_length l)))
  have HN0 := Lib.hid (tnN_lt l)
  have HN1 := Lib.hid (tnN_lt (tnR l))
  have HML := Lib.hid hl
  have HNO := Lib.hid (fun z (h : dcOk l = false) => DcIs.no w.heap.size z h)
  have HYE := Lib.hid (fun (h : dcOk l = true) z v2 v3 v4 v5 hr => DcIs.yes (base := w.heap.size) (w' := z) (v2 := v2) (v3 := v3) (v4 := v4) (v5 := v5) h hr)
  have HBE : Hid (Below w.heap.size w (w.alloc (.cells #[.int .u64 0, .int .u64 0, .int .u8 0, .string ⟨#[]⟩, .int .i64 0, .int .i64 0, .int .i64 0, .slice none 0 0, .slice none 0 0, .string ⟨#[]⟩, .int .i64 0, .int .i64 0, .int .i64 0, .slice none 0 0, .slice none 0 0, .string ⟨#[]⟩, .string ⟨#[]⟩, .int .i64 0, .string ⟨#[]⟩, .string ⟨#[]⟩, .int .u64 0] 33))) := (Below.refl _ _).alloc (Nat.le_refl _) _
  have HRB : Hid (Bxn (w.alloc (.cells #[.int .u64 0, .int .u64 0, .int .u8 0, .string ⟨#[]⟩, .int .i64 0, .int .i64 0, .int .i64 0, .slice none 0 0, .slice none 0 0, .string ⟨#[]⟩, .int .i64 0, .int .i64 0, .int .i64 0, .slice none 0 0, .slice none 0 0, .string ⟨#[]⟩, .string ⟨#[]⟩, .int .i64 0, .string ⟨#[]⟩, .string ⟨#[]⟩, .int .u64 0] 33)) w.heap.size [.int .u64 0, .int .u64 0, .int .u8 0, .string ⟨#[]⟩, .int .i64 0, .int .i64 0, .int .i64 0, .slice none 0 0, .slice none 0 0, .string ⟨#[]⟩, .int .i64 0, .int .i64 0, .int .i64 0, .slice none 0 0, .slice none 0 0, .string ⟨#[]⟩, .string ⟨#[]⟩, .int .i64 0, .string ⟨#[]⟩, .string ⟨#[]⟩, .int .u64 0]) := Bxn.made w _ _
  generalize tnR (tnR (tnR l)) = r3 at *
  generalize tnN (tnR (tnR l)) = n2 at *
  generalize tnN (tnR l) = n1 at *
  generalize tnN l = n0 at *
  generalize (((false || decide (tnW l ≠ 0)) || decide (tnW (tnR l) ≠ 0)) || decide (tnW (tnR (tnR l)) ≠ 0)) = b2 at *
  have HD := Lib.hid HD0
  clear HD0 hl
  go_enter Try.func13, Try.ntmps13
  go_upto_region 1 with fail
  generalize w.alloc (.cells #[.int .u64 0, .int .u64 0, .int .u8 0, .string ⟨#[]⟩, .int .i64 0, .int .i64 0, .int .i64 0, .slice none 0 0, .slice none 0 0, .string ⟨#[]⟩, .int .i64 0, .int .i64 0, .int .i64 0, .slice none 0 0, .slice none 0 0, .string ⟨#[]⟩, .string ⟨#[]⟩, .int .i64 0, .string ⟨#[]⟩, .string ⟨#[]⟩, .int .u64 0] 33) = W0 at *
  go_wp2_with fail
  refine (K0.out _ _ (Tk.made _ W0 l false)).mono ?_
  rintro e x1 ⟨rfl, h1, ho1⟩
  have HZ0 := Lib.hid (Dz.made [.int .u64 0, .int .u64 0, .int .u8 0, .string ⟨#[]⟩, .int .i64 0, .int .i64 0, .int .i64 0, .slice none 0 0, .slice none 0 0, .string ⟨#[]⟩, .int .i64 0, .int .i64 0, .int .i64 0, .slice none 0 0, .slice none 0 0, .string ⟨#[]⟩, .string ⟨#[]⟩, .int .i64 0, .string ⟨#[]⟩, .string ⟨#[]⟩, .int .u64 0] [.int .u64 0, .int .u64 0, .int .u8 0, .string ⟨#[]⟩, .int .i64 0, .int .i64 0, .int .i64 0, .slice none 0 0, .slice none 0 0, .string ⟨#[]⟩, .int .i64 0, .int .i64 0, .int .i64 0, .slice none 0 0, .slice none 0 0, .string ⟨#[]⟩, .string ⟨#[]⟩, .int .i64 0, .string ⟨#[]⟩, .string ⟨#[]⟩, .int .u64 0] 76 33 HRB.out HBE.out h1 ho1)
  have HZ1 := Lib.hid (HZ0.out.call [.int .u64 (n0 : Nat), .int .u64 0, .int .u8 0, .string ⟨#[]⟩, .int .i64 0, .int .i64 0, .int .i64 0, .slice none 0 0, .slice none 0 0, .string ⟨#[]⟩, .int .i64 0, .int .i64 0, .int .i64 0, .slice none 0 0, .slice none 0 0, .string ⟨#[]⟩, .string ⟨#[]⟩, .int .i64 0, .string ⟨#[]⟩, .string ⟨#[]⟩, .int .u64 0] rfl)
  have hth := HZ0.out.bx.there 21 rfl
  clear h1 ho1 HBE HRB K0 HZ0
  dsimp only
  refine ‹∀ (a : Act) (w : World), wpList Try.prog _ _ _ a w → _› _ _ ?_
  refine wpList_plain rfl fun K hK => ?_
  go_simp
  refine hK _ _ ?_
  clear hK K
  refine wpList_plain rfl fun K hK => ?_
  go_simp
  refine hK _ _ ?_
  clear hK K
  refine wpList_store_mid rfl 33 (.tmp 5) (.tmp 13) rfl x1.heap.size 0 #[.int .u64 (n0 : Nat), .int .u64 0, .int .u8 0, .string ⟨#[]⟩, .int .i64 0, .int .i64 0, .int .i64 0, .slice none 0 0, .slice none 0 0, .string ⟨#[]⟩, .int .i64 0, .int .i64 0, .int .i64 0, .slice none 0 0, .slice none 0 0, .string ⟨#[]⟩, .string ⟨#[]⟩, .int .i64 0, .string ⟨#[]⟩, .string ⟨#[]⟩, .int .u64 0] rfl rfl hth rfl (all_oneCell_toArray (cdC_one (cd0 n0 0 0) nilS nilS nilS nilS rfl rfl rfl rfl)) ?_
  clear hth
  refine wpList_nil ?_
  rw [show (#[.int .u64 (n0 : Nat), .int .u64 0, .int .u8 0, .string ⟨#[]⟩, .int .i64 0, .int .i64 0, .int .i64 0, .slice none 0 0, .slice none 0 0, .string ⟨#[]⟩, .int .i64 0, .int .i64 0, .int .i64 0, .slice none 0 0, .slice none 0 0, .string ⟨#[]⟩, .string ⟨#[]⟩, .int .i64 0, .string ⟨#[]⟩, .string ⟨#[]⟩, .int .u64 0] : Array Value).toList = [.int .u64 (n0 : Nat), .int .u64 0, .int .u8 0, .string ⟨#[]⟩, .int .i64 0, .int .i64 0, .int .i64 0, .slice none 0 0, .slice none 0 0, .string ⟨#[]⟩, .int .i64 0, .int .i64 0, .int .i64 0, .slice none 0 0, .slice none 0 0, .string ⟨#[]⟩, .string ⟨#[]⟩, .int .i64 0, .string ⟨#[]⟩, .string ⟨#[]⟩, .int .u64 0] from rfl]
  generalize (x1.alloc (.cells #[.int .u64 0, .int .u64 0, .int .u8 0, .string ⟨#[]⟩, .int .i64 0, .int .i64 0, .int .i64 0, .slice none 0 0, .slice none 0 0, .string ⟨#[]⟩, .int .i64 0, .int .i64 0, .int .i64 0, .slice none 0 0, .slice none 0 0, .string ⟨#[]⟩, .string ⟨#[]⟩, .int .i64 0, .string ⟨#[]⟩, .string ⟨#[]⟩, .int .u64 0] 33)).setCells x1.heap.size 0 [.int .u64 (n0 : Nat), .int .u64 0, .int .u8 0, .string ⟨#[]⟩, .int .i64 0, .int .i64 0, .int .i64 0, .slice none 0 0, .slice none 0 0, .string ⟨#[]⟩, .int .i64 0, .int .i64 0, .int .i64 0, .slice none 0 0, .slice none 0 0, .string ⟨#[]⟩, .string ⟨#[]⟩, .int .i64 0, .string ⟨#[]⟩, .string ⟨#[]⟩, .int .u64 0] = W1 at *
  generalize x1.heap.size = C at *
  generalize W0.heap.size = G at *
  go_wp2_with fail
  refine (K1.out _ _ HZ1.out.tk).mono ?_
  rintro e x2 ⟨rfl, h1, ho1⟩
  have HZ2 := Lib.hid (HZ1.out.go h1 ho1)
  have c1 : x2.cell? ⟨C, 1, none⟩ = some (.int .u64 0) := HZ2.out.bx.cell 1
  have f1 := HZ2.out.bx.fz 1
  have HZ3 := Lib.hid (HZ2.out.p 1 (.int .u64 (n1 : Nat)))
  clear h1 ho1 K1 HZ1
  go_wp2_with fail
  refine (K2.out _ _ HZ3.out.tk).mono ?_
  rintro e x3 ⟨rfl, h1, ho1⟩
  have HZ4 := Lib.hid (HZ3.out.go h1 ho1)
  clear h1 ho1 K2 HZ2 HZ3 c1 f1
  obtain ⟨c0, c1, g0, g1⟩ := HZ4.out.tk.cells
  subst hf
  have HNX := Lib.hid (HD.out.nof HML.out)
  go_upto_region 6 with fail
  refine wp_region_list ?_
  refine wpList_plain rfl fun K hK => ?_
  go_simp
  refine hK _ _ ?_
  clear hK K
  have hth := HZ4.out.rb.there 21 rfl
  have HE := Lib.hid (HZ4.out.all [.int .u64 0, .int .u64 0, .int .u8 0, .string ⟨#[]⟩, .int .i64 0, .int .i64 0, .int .i64 0, .slice none 0 0, .slice none 0 0, .string ⟨#[]⟩, .int .i64 0, .int .i64 0, .int .i64 0, .slice none 0 0, .slice none 0 0, .string ⟨#[]⟩, .string ⟨#[]⟩, .int .i64 0, .string ⟨#[]⟩, .string ⟨#[]⟩, .int .u64 0] rfl)
  refine wpList_store_mid rfl 33 (.tmp 2) (.tmp 31) rfl w.heap.size 0 #[.int .u64 0, .int .u64 0, .int .u8 0, .string ⟨#[]⟩, .int .i64 0, .int .i64 0, .int .i64 0, .slice none 0 0, .slice none 0 0, .string ⟨#[]⟩, .int .i64 0, .int .i64 0, .int .i64 0, .slice none 0 0, .slice none 0 0, .string ⟨#[]⟩, .string ⟨#[]⟩, .int .i64 0, .string ⟨#[]⟩, .string ⟨#[]⟩, .int .u64 0] rfl rfl hth rfl (all_oneCell_toArray (cdC_one (cd0 0 0 0) nilS nilS nilS nilS rfl rfl rfl rfl)) ?_
  clear hth
  go_wp2
  refine bodyPost_bx2 rfl w.heap.size [.int .u64 0, .int .u64 0, .int .u8 0, .string ⟨#[]⟩, .int .i64 0, .int .i64 0, .int .i64 0, .slice none 0 0, .slice none 0 0, .string ⟨#[]⟩, .int .i64 0, .int .i64 0, .int .i64 0, .slice none 0 0, .slice none 0 0, .string ⟨#[]⟩, .string ⟨#[]⟩, .int .i64 0, .string ⟨#[]⟩, .string ⟨#[]⟩, .int .u64 0] _ rfl rfl ?_ Try.underlying33 rfl rfl ?_
  case refine_1 => exact HE.out.1
  case refine_2 => exact ⟨HNO.out _ HNX.out, HE.out.2⟩
set_option maxRecDepth 100000 in
set_option maxHeartbeats 2000000 in
theorem dcd_zero (l : List UInt8) (w : World) (hl : l.length ≤ maxLen) (hk : tnN (tnR (tnR l)) = 0) (hf : (((false || decide (tnW l ≠ 0)) || decide (tnW (tnR l) ≠ 0)) || decide (tnW (tnR (tnR l)) ≠ 0)) = false) :
    Calls Try.prog 13 #[.string (bs l)] w fun e w' => DcIs l w.heap.size e w' ∧ Below w.heap.size w w' := by
  have HD0 : Hdr l (tnN l) (tnN (tnR l)) (tnN (tnR (tnR l))) (tnR (tnR (tnR l))) (((false || decide (tnW l ≠ 0)) || decide (tnW (tnR l) ≠ 0)) || decide (tnW (tnR (tnR l)) ≠ 0)) := ((sp_num l false).and (sp_num (tnR l) _)).and (sp_num (tnR (tnR l)) _)
  have K0 := Lib.hid (fun g z (hz : Tk z g l false) => bag_number g l false z hz hl)
  have K1 := Lib.hid (fun g z (hz : Tk z g (tnR l) (false || decide (tnW l ≠ 0))) => bag_number g (tnR l) _ z hz (Nat.le_trans (tnR_length l) hl))
  have K2 := Lib.hid (fun g z (hz : Tk z g (tnR (tnR l)) ((false || decide (tnW l ≠ 0)) || decide (tnW (tnR l) ≠ 0))) => bag_number g (tnR (tnR l)) _ z hz (Nat.le_trans (tnR_length _) (Nat.le_trans (tnR_length l) hl)))
  have HL3 := Lib.hid (Nat.le_trans (tnR_length (tnR (tnR l))) (Nat.le_trans (tnR_length (tnR l)) (tnR_length l)))
  have HN0 := Lib.hid (tnN_lt l)
  have HN1 := Lib.hid (tnN_lt (tnR l))
  have HML := Lib.hid hl
  have HNO := Lib.hid (fun z (h : dcOk l = false) => DcIs.no w.heap.size z h)
  have HYE := Lib.hid (fun (h : dcOk l = true) z v2 v3 v4 v5 hr => DcIs.yes (base := w.heap.size) (w' := z) (v2 := v2) (v3 := v3) (v4 := v4) (v5 := v5) h hr)
  have HBE : Hid (Below w.heap.size w (w.alloc (.cells #[.int .u64 0, .int .u64 0, .int .u8 0, .string ⟨#[]⟩, .int .i64 0, .int .i64 0, .int .i64 0, .slice none 0 0, .slice none 0 0, .string ⟨#[]⟩, .int .i64 0, .int .i64 0, .int .i64 0, .slice none 0 0, .slice none 0 0, .string ⟨#[]⟩, .string ⟨#[]⟩, .int .i64 0, .string ⟨#[]⟩, .string ⟨#[]⟩, .int .u64 0] 33))) := (Below.refl _ _).alloc (Nat.le_refl _) _
  have HRB : Hid (Bxn (w.alloc (.cells #[.int .u64 0, .int .u64 0, .int .u8 0, .string ⟨#[]⟩, .int .i64 0, .int .i64 0, .int .i64 0, .slice none 0 0, .slice none 0 0, .string ⟨#[]⟩, .int .i64 0, .int .i64 0, .int .i64 0, .slice none 0 0, .slice none 0 0, .string ⟨#[]⟩, .string ⟨#[]⟩, .int .i64 0, .string ⟨#[]⟩, .string ⟨#[]⟩, .int .u64 0] 33)) w.heap.size [.int .u64 0, .int .u64 0, .int .u8 0, .string ⟨#[]⟩, .int .i64 0, .int .i64 0, .int .i64 0, .slice none 0 0, .slice none 0 0, .string ⟨#[]⟩, .int .i64 0, .int .i64 0, .int .i64 0, .slice none 0 0, .slice none 0 0, .string ⟨#[]⟩, .string ⟨#[]⟩, .int .i64 0, .string ⟨#[]⟩, .string ⟨#[]⟩, .int .u64 0]) := Bxn.made w _ _
  generalize tnR (tnR (tnR l)) = r3 at *
  generalize tnN (tnR (tnR l)) = n2 at *
  generalize tnN (tnR l) = n1 at *
  generalize tnN l = n0 at *
  generalize (((false || decide (tnW l ≠ 0)) || decide (tnW (tnR l) ≠ 0)) || decide (tnW (tnR (tnR l)) ≠ 0)) = b2 at *
  have HD := Lib.hid HD0
  clear HD0 hl
  go_enter Try.func13, Try.ntmps13
  go_upto_region 1 with fail
  generalize w.alloc (.cells #[.int .u64 0, .int .u64 0, .int .u8 0, .string ⟨#[]⟩, .int .i64 0, .int .i64 0, .int .i64 0, .slice none 0 0, .slice none 0 0, .string ⟨#[]⟩, .int .i64 0, .int .i64 0, .int .i64 0, .slice none 0 0, .slice none 0 0, .string ⟨#[]⟩, .string ⟨#[]⟩, .int .i64 0, .string ⟨#[]⟩, .string ⟨#[]⟩, .int .u64 0] 33) = W0 at *
  go_wp2_with fail
  refine (K0.out _ _ (Tk.made _ W0 l false)).mono ?_
  rintro e x1 ⟨rfl, h1, ho1⟩
  have HZ0 := Lib.hid (Dz.made [.int .u64 0, .int .u64 0, .int .u8 0, .string ⟨#[]⟩, .int .i64 0, .int .i64 0, .int .i64 0, .slice none 0 0, .slice none 0 0, .string ⟨#[]⟩, .int .i64 0, .int .i64 0, .int .i64 0, .slice none 0 0, .slice none 0 0, .string ⟨#[]⟩, .string ⟨#[]⟩, .int .i64 0, .string ⟨#[]⟩, .string ⟨#[]⟩, .int .u64 0] [.int .u64 0, .int .u64 0, .int .u8 0, .string ⟨#[]⟩, .int .i64 0, .int .i64 0, .int .i64 0, .slice none 0 0, .slice none 0 0, .string ⟨#[]⟩, .int .i64 0, .int .i64 0, .int .i64 0, .slice none 0 0, .slice none 0 0, .string ⟨#[]⟩, .string ⟨#[]⟩, .int .i64 0, .string ⟨#[]⟩, .string ⟨#[]⟩, .int .u64 0] 76 33 HRB.out HBE.out h1 ho1)
  have HZ1 := Lib.hid (HZ0.out.call [.int .u64 (n0 : Nat), .int .u64 0, .int .u8 0, .string ⟨#[]⟩, .int .i64 0, .int .i64 0, .int .i64 0, .slice none 0 0, .slice none 0 0, .string ⟨#[]⟩, .int .i64 0, .int .i64 0, .int .i64 0, .slice none 0 0, .slice none 0 0, .string ⟨#[]⟩, .string ⟨#[]⟩, .int .i64 0, .string ⟨#[]⟩, .string ⟨#[]⟩, .int .u64 0] rfl)
  have hth := HZ0.out.bx.there 21 rfl
  clear h1 ho1 HBE HRB K0 HZ0
  dsimp only
  refine ‹∀ (a : Act) (w : World), wpList Try.prog _ _ _ a w → _› _ _ ?_
  refine wpList_plain rfl fun K hK => ?_
  go_simp
  refine hK _ _ ?_
  clear hK K
  refine wpList_plain rfl fun K hK => ?_
  go_simp
  refine hK _ _ ?_
  clear hK K
  refine wpList_store_mid rfl 33 (.tmp 5) (.tmp 13) rfl x1.heap.size 0 #[.int .u64 (n0 : Nat), .int .u64 0, .int .u8 0, .string ⟨#[]⟩, .int .i64 0, .int .i64 0, .int .i64 0, .slice none 0 0, .slice none 0 0, .string ⟨#[]⟩, .int .i64 0, .int .i64 0, .int .i64 0, .slice none 0 0, .slice none 0 0, .string ⟨#[]⟩, .string ⟨#[]⟩, .int .i64 0, .string ⟨#[]⟩, .string ⟨#[]⟩, .int .u64 0] rfl rfl hth rfl (all_oneCell_toArray (cdC_one (cd0 n0 0 0) nilS nilS nilS nilS rfl rfl rfl rfl)) ?_
  clear hth
  refine wpList_nil ?_
  rw [show (#[.int .u64 (n0 : Nat), .int .u64 0, .int .u8 0, .string ⟨#[]⟩, .int .i64 0, .int .i64 0, .int .i64 0, .slice none 0 0, .slice none 0 0, .string ⟨#[]⟩, .int .i64 0, .int .i64 0, .int .i64 0, .slice none 0 0, .slice none 0 0, .string ⟨#[]⟩, .string ⟨#[]⟩, .int .i64 0, .string ⟨#[]⟩, .string ⟨#[]⟩, .int .u64 0] : Array Value).toList = [.int .u64 (n0 : Nat), .int .u64 0, .int .u8 0, .string ⟨#[]⟩, .int .i64 0, .int .i64 0, .int .i64 0, .slice none 0 0, .slice none 0 0, .string ⟨#[]⟩, .int .i64 0, .int .i64 0, .int .i64 0, .slice none 0 0, .slice none 0 0, .string ⟨#[]⟩, .string ⟨#[]⟩, .int .i64 0, .string ⟨#[]⟩, .string ⟨#[]⟩, .int .u64 0] from rfl]
  generalize (x1.alloc (.cells #[.int .u64 0, .int .u64 0, .int .u8 0, .string ⟨#[]⟩, .int .i64 0, .int .i64 0, .int .i64 0, .slice none 0 0, .slice none 0 0, .string ⟨#[]⟩, .int .i64 0, .int .i64 0, .int .i64 0, .slice none 0 0, .slice none 0 0, .string ⟨#[]⟩, .string ⟨#[]⟩, .int .i64 0, .string ⟨#[]⟩, .string ⟨#[]⟩, .int .u64 0] 33)).setCells x1.heap.size 0 [.int .u64 (n0 : Nat), .int .u64 0, .int .u8 0, .string ⟨#[]⟩, .int .i64 0, .int .i64 0, .int .i64 0, .slice none 0 0, .slice none 0 0, .string ⟨#[]⟩, .int .i64 0, .int .i64 0, .int .i64 0, .slice none 0 0, .slice none 0 0, .string ⟨#[]⟩, .string ⟨#[]⟩, .int .i64 0, .string ⟨#[]⟩, .string ⟨#[]⟩, .int .u64 0] = W1 at *
  generalize x1.heap.size = C at *
  generalize W0.heap.size = G at *
  go_wp2_with fail
  refine (K1.out _ _ HZ1.out.tk).mono ?_
  rintro e x2 ⟨rfl, h1, ho1⟩
  have HZ2 := Lib.hid (HZ1.out.go h1 ho1)
  have c1 : x2.cell? ⟨C, 1, none⟩ = some (.int .u64 0) := HZ2.out.bx.cell 1
  have f1 := HZ2.out.bx.fz 1
  have HZ3 := Lib.hid (HZ2.out.p 1 (.int .u64 (n1 : Nat)))
  clear h1 ho1 K1 HZ1
  go_wp2_with fail
  refine (K2.out _ _ HZ3.out.tk).mono ?_
  rintro e x3 ⟨rfl, h1, ho1⟩
  have HZ4 := Lib.hid (HZ3.out.go h1 ho1)
  clear h1 ho1 K2 HZ2 HZ3 c1 f1
  obtain ⟨c0, c1, g0, g1⟩ := HZ4.out.tk.cells
  subst hk hf
  have HNX := Lib.hid (HD.out.nok HML.out (.inl rfl))
  go_upto_region 6 with fail
  refine wp_region_list ?_
  refine wpList_plain rfl fun K hK => ?_
  go_simp
  refine hK _ _ ?_
  clear hK K
  have hth := HZ4.out.rb.there 21 rfl
  have HE := Lib.hid (HZ4.out.all [.int .u64 0, .int .u64 0, .int .u8 0, .string ⟨#[]⟩, .int .i64 0, .int .i64 0, .int .i64 0, .slice none 0 0, .slice none 0 0, .string ⟨#[]⟩, .int .i64 0, .int .i64 0, .int .i64 0, .slice none 0 0, .slice none 0 0, .string ⟨#[]⟩, .string ⟨#[]⟩, .int .i64 0, .string ⟨#[]⟩, .string ⟨#[]⟩, .int .u64 0] rfl)
  refine wpList_store_mid rfl 33 (.tmp 2) (.tmp 31) rfl w.heap.size 0 #[.int .u64 0, .int .u64 0, .int .u8 0, .string ⟨#[]⟩, .int .i64 0, .int .i64 0, .int .i64 0, .slice none 0 0, .slice none 0 0, .string ⟨#[]⟩, .int .i64 0, .int .i64 0, .int .i64 0, .slice none 0 0, .slice none 0 0, .string ⟨#[]⟩, .string ⟨#[]⟩, .int .i64 0, .string ⟨#[]⟩, .string ⟨#[]⟩, .int .u64 0] rfl rfl hth rfl (all_oneCell_toArray (cdC_one (cd0 0 0 0) nilS nilS nilS nilS rfl rfl rfl rfl)) ?_
  clear hth
  go_wp2
  refine bodyPost_bx2 rfl w.heap.size [.int .u64 0, .int .u64 0, .int .u8 0, .string ⟨#[]⟩, .int .i64 0, .int .i64 0, .int .i64 0, .slice none 0 0, .slice none 0 0, .string ⟨#[]⟩, .int .i64 0, .int .i64 0, .int .i64 0, .slice none 0 0, .slice none 0 0, .string ⟨#[]⟩, .string ⟨#[]⟩, .int .i64 0, .string ⟨#[]⟩, .string ⟨#[]⟩, .int .u64 0] _ rfl rfl ?_ Try.underlying33 rfl rfl ?_
  case refine_1 => exact HE.out.1
  case refine_2 => exact ⟨HNO.out _ HNX.out, HE.out.2⟩
set_option maxRecDepth 100000 in
set_option maxHeartbeats 2000000 in
theorem dcd_big (l : List UInt8) (w : World) (hl : l.length ≤ maxLen) (hk : 8 ≤ tnN (tnR (tnR l))) (hf : (((false || decide (tnW l ≠ 0)) || decide (tnW (tnR l) ≠ 0)) || decide (tnW (tnR (tnR l)) ≠ 0)) = false) :
    Calls Try.prog 13 #[.string (bs l)] w fun e w' => DcIs l w.heap.size e w' ∧ Below w.heap.size w w' := by
  have HD0 : Hdr l (tnN l) (tnN (tnR l)) (tnN (tnR (tnR l))) (tnR (tnR (tnR l))) (((false || decide (tnW l ≠ 0)) || decide (tnW (tnR l) ≠ 0)) || decide (tnW (tnR (tnR l)) ≠ 0)) := ((sp_num l false).and (sp_num (tnR l) _)).and (sp_num (tnR (tnR l)) _)
  have K0 := Lib.hid (fun g z (hz : Tk z g l false) => bag_number g l false z hz hl)
  have K1 := Lib.hid (fun g z (hz : Tk z g (tnR l) (false || decide (tnW l ≠ 0))) => bag_number g (tnR l) _ z hz (Nat.le_trans (tnR_length l) hl))
  have K2 := Lib.hid (fun g z (hz : Tk z g (tnR (tnR l)) ((false || decide (tnW l ≠ 0)) || decide (tnW (tnR l) ≠ 0))) => bag_number g (tnR (tnR l)) _ z hz (Nat.le_trans (tnR_length _) (Nat.le_trans (tnR_length l) hl)))
  have HL3 := Lib.hid (Nat.le_trans (tnR_length (tnR (tnR l))) (Nat.le_trans (tnR_length (tnR l)) (tnR_length l)))
  have HN0 := Lib.hid (tnN_lt l)
  have HN1 := Lib.hid (tnN_lt (tnR l))
  have HML := Lib.hid hl
  have HNO := Lib.hid (fun z (h : dcOk l = false) => DcIs.no w.heap.size z h)
  have HYE := Lib.hid (fun (h : dcOk l = true) z v2 v3 v4 v5 hr => DcIs.yes (base := w.heap.size) (w' := z) (v2 := v2) (v3 := v3) (v4 := v4) (v5 := v5) h hr)
  have HBE : Hid (Below w.heap.size w (w.alloc (.cells #[.int .u64 0, .int .u64 0, .int .u8 0, .string ⟨#[]⟩, .int .i64 0, .int .i64 0, .int .i64 0, .slice none 0 0, .slice none 0 0, .string ⟨#[]⟩, .int .i64 0, .int .i64 0, .int .i64 0, .slice none 0 0, .slice none 0 0, .string ⟨#[]⟩, .string ⟨#[]⟩, .int .i64 0, .string ⟨#[]⟩, .string ⟨#[]⟩, .int .u64 0] 33))) := (Below.refl _ _).alloc (Nat.le_refl _) _
  have HRB : Hid (Bxn (w.alloc (.cells #[.int .u64 0, .int .u64 0, .int .u8 0, .string ⟨#[]⟩, .int .i64 0, .int .i64 0, .int .i64 0, .slice none 0 0, .slice none 0 0, .string ⟨#[]⟩, .int .i64 0, .int .i64 0, .int .i64 0, .slice none 0 0, .slice none 0 0, .string ⟨#[]⟩, .string ⟨#[]⟩, .int .i64 0, .string ⟨#[]⟩, .string ⟨#[]⟩, .int .u64 0] 33)) w.heap.size [.int .u64 0, .int .u64 0, .int .u8 0, .string ⟨#[]⟩, .int .i64 0, .int .i64 0, .int .i64 0, .slice none 0 0, .slice none 0 0, .string ⟨#[]⟩, .int .i64 0, .int .i64 0, .int .i64 0, .slice none 0 0, .slice none 0 0, .string ⟨#[]⟩, .string ⟨#[]⟩, .int .i64 0, .string ⟨#[]⟩, .string ⟨#[]⟩, .int .u64 0]) := Bxn.made w _ _
  generalize tnR (tnR (tnR l)) = r3 at *
  generalize tnN (tnR (tnR l)) = n2 at *
  generalize tnN (tnR l) = n1 at *
  generalize tnN l = n0 at *
  generalize (((false || decide (tnW l ≠ 0)) || decide (tnW (tnR l) ≠ 0)) || decide (tnW (tnR (tnR l)) ≠ 0)) = b2 at *
  have HD := Lib.hid HD0
  clear HD0 hl
  go_enter Try.func13, Try.ntmps13
  go_upto_region 1 with fail
  generalize w.alloc (.cells #[.int .u64 0, .int .u64 0, .int .u8 0, .string ⟨#[]⟩, .int .i64 0, .int .i64 0, .int .i64 0, .slice none 0 0, .slice none 0 0, .string ⟨#[]⟩, .int .i64 0, .int .i64 0, .int .i64 0, .slice none 0 0, .slice none 0 0, .string ⟨#[]⟩, .string ⟨#[]⟩, .int .i64 0, .string ⟨#[]⟩, .string ⟨#[]⟩, .int .u64 0] 33) = W0 at *
  go_wp2_with fail
  refine (K0.out _ _ (Tk.made _ W0 l false)).mono ?_
  rintro e x1 ⟨rfl, h1, ho1⟩
  have HZ0 := Lib.hid (Dz.made [.int .u64 0, .int .u64 0, .int .u8 0, .string ⟨#[]⟩, .int .i64 0, .int .i64 0, .int .i64 0, .slice none 0 0, .slice none 0 0, .string ⟨#[]⟩, .int .i64 0, .int .i64 0, .int .i64 0, .slice none 0 0, .slice none 0 0, .string ⟨#[]⟩, .string ⟨#[]⟩, .int .i64 0, .string ⟨#[]⟩, .string ⟨#[]⟩, .int .u64 0] [.int .u64 0, .int .u64 0, .int .u8 0, .string ⟨#[]⟩, .int .i64 0, .int .i64 0, .int .i64 0, .slice none 0 0, .slice none 0 0, .string ⟨#[]⟩, .int .i64 0, .int .i64 0, .int .i64 0, .slice none 0 0, .slice none 0 0, .string ⟨#[]⟩, .string ⟨#[]⟩, .int .i64 0, .string ⟨#[]⟩, .string ⟨#[]⟩, .int .u64 0] 76 33 HRB.out HBE.out h1 ho1)
  have HZ1 := Lib.hid (HZ0.out.call [.int .u64 (n0 : Nat), .int .u64 0, .int .u8 0, .string ⟨#[]⟩, .int .i64 0, .int .i64 0, .int .i64 0, .slice none 0 0, .slice none 0 0, .string ⟨#[]⟩, .int .i64 0, .int .i64 0, .int .i64 0, .slice none 0 0, .slice none 0 0, .string ⟨#[]⟩, .string ⟨#[]⟩, .int .i64 0, .string ⟨#[]⟩, .string ⟨#[]⟩, .int .u64 0] rfl)
  have hth := HZ0.out.bx.there 21 rfl
  clear h1 ho1 HBE HRB K0 HZ0
  dsimp only
  refine ‹∀ (a : Act) (w : World), wpList Try.prog _ _ _ a w → _› _ _ ?_
  refine wpList_plain rfl fun K hK => ?_
  go_simp
  refine hK _ _ ?_
  clear hK K
  refine wpList_plain rfl fun K hK => ?_
  go_simp
  refine hK _ _ ?_
  clear hK K
  refine wpList_store_mid rfl 33 (.tmp 5) (.tmp 13) rfl x1.heap.size 0 #[.int .u64 (n0 : Nat), .int .u64 0, .int .u8 0, .string ⟨#[]⟩, .int .i64 0, .int .i64 0, .int .i64 0, .slice none 0 0, .slice none 0 0, .string ⟨#[]⟩, .int .i64 0, .int .i64 0, .int .i64 0, .slice none 0 0, .slice none 0 0, .string ⟨#[]⟩, .string ⟨#[]⟩, .int .i64 0, .string ⟨#[]⟩, .string ⟨#[]⟩, .int .u64 0] rfl rfl hth rfl (all_oneCell_toArray (cdC_one (cd0 n0 0 0) nilS nilS nilS nilS rfl rfl rfl rfl)) ?_
  clear hth
  refine wpList_nil ?_
  rw [show (#[.int .u64 (n0 : Nat), .int .u64 0, .int .u8 0, .string ⟨#[]⟩, .int .i64 0, .int .i64 0, .int .i64 0, .slice none 0 0, .slice none 0 0, .string ⟨#[]⟩, .int .i64 0, .int .i64 0, .int .i64 0, .slice none 0 0, .slice none 0 0, .string ⟨#[]⟩, .string ⟨#[]⟩, .int .i64 0, .string ⟨#[]⟩, .string ⟨#[]⟩, .int .u64 0] : Array Value).toList = [.int .u64 (n0 : Nat), .int .u64 0, .int .u8 0, .string ⟨#[]⟩, .int .i64 0, .int .i64 0, .int .i64 0, .slice none 0 0, .slice none 0 0, .string ⟨#[]⟩, .int .i64 0, .int .i64 0, .int .i64 0, .slice none 0 0, .slice none 0 0, .string ⟨#[]⟩, .string ⟨#[]⟩, .int .i64 0, .string ⟨#[]⟩, .string ⟨#[]⟩, .int .u64 0] from rfl]
  generalize (x1.alloc (.cells #[.int .u64 0, .int .u64 0, .int .u8 0, .string ⟨#[]⟩, .int .i64 0, .int .i64 0, .int .i64 0, .slice none 0 0, .slice none 0 0, .string ⟨#[]⟩, .int .i64 0, .int .i64 0, .int .i64 0, .slice none 0 0, .slice none 0 0, .string ⟨#[]⟩, .string ⟨#[]⟩, .int .i64 0, .string ⟨#[]⟩, .string ⟨#[]⟩, .int .u64 0] 33)).setCells x1.heap.size 0 [.int .u64 (n0 : Nat), .int .u64 0, .int .u8 0, .string ⟨#[]⟩, .int .i64 0, .int .i64 0, .int .i64 0, .slice none 0 0, .slice none 0 0, .string ⟨#[]⟩, .int .i64 0, .int .i64 0, .int .i64 0, .slice none 0 0, .slice none 0 0, .string ⟨#[]⟩, .string ⟨#[]⟩, .int .i64 0, .string ⟨#[]⟩, .string ⟨#[]⟩, .int .u64 0] = W1 at *
  generalize x1.heap.size = C at *
  generalize W0.heap.size = G at *
  go_wp2_with fail
  refine (K1.out _ _ HZ1.out.tk).mono ?_
  rintro e x2 ⟨rfl, h1, ho1⟩
  have HZ2 := Lib.hid (HZ1.out.go h1 ho1)
  have c1 : x2.cell? ⟨C, 1, none⟩ = some (.int .u64 0) := HZ2.out.bx.cell 1
  have f1 := HZ2.out.bx.fz 1
  have HZ3 := Lib.hid (HZ2.out.p 1 (.int .u64 (n1 : Nat)))
  clear h1 ho1 K1 HZ1
  go_wp2_with fail
  refine (K2.out _ _ HZ3.out.tk).mono ?_
  rintro e x3 ⟨rfl, h1, ho1⟩
  have HZ4 := Lib.hid (HZ3.out.go h1 ho1)
  clear h1 ho1 K2 HZ2 HZ3 c1 f1
  obtain ⟨c0, c1, g0, g1⟩ := HZ4.out.tk.cells
  subst hf
  have HNX := Lib.hid (HD.out.nok HML.out (.inr hk))
  have m0 : ¬ ((n2 : Nat) : Int) = 0 := by omega
  have m1 : (((n2 : Nat) : Int) == 0) = false := by simp; omega
  have m8 : (8 : Int) ≤ ((n2 : Nat) : Int) := by omega
  clear hk
  go_upto_region 6 with fail
  refine wp_region_list ?_
  refine wpList_plain rfl fun K hK => ?_
  go_simp
  refine hK _ _ ?_
  clear hK K
  have hth := HZ4.out.rb.there 21 rfl
  have HE := Lib.hid (HZ4.out.all [.int .u64 0, .int .u64 0, .int .u8 0, .string ⟨#[]⟩, .int .i64 0, .int .i64 0, .int .i64 0, .slice none 0 0, .slice none 0 0, .string ⟨#[]⟩, .int .i64 0, .int .i64 0, .int .i64 0, .slice none 0 0, .slice none 0 0, .string ⟨#[]⟩, .string ⟨#[]⟩, .int .i64 0, .string ⟨#[]⟩, .string ⟨#[]⟩, .int .u64 0] rfl)
  refine wpList_store_mid rfl 33 (.tmp 2) (.tmp 31) rfl w.heap.size 0 #[.int .u64 0, .int .u64 0, .int .u8 0, .string ⟨#[]⟩, .int .i64 0, .int .i64 0, .int .i64 0, .slice none 0 0, .slice none 0 0, .string ⟨#[]⟩, .int .i64 0, .int .i64 0, .int .i64 0, .slice none 0 0, .slice none 0 0, .string ⟨#[]⟩, .string ⟨#[]⟩, .int .i64 0, .string ⟨#[]⟩, .string ⟨#[]⟩, .int .u64 0] rfl rfl hth rfl (all_oneCell_toArray (cdC_one (cd0 0 0 0) nilS nilS nilS nilS rfl rfl rfl rfl)) ?_
  clear hth
  go_wp2
  refine bodyPost_bx2 rfl w.heap.size [.int .u64 0, .int .u64 0, .int .u8 0, .string ⟨#[]⟩, .int .i64 0, .int .i64 0, .int .i64 0, .slice none 0 0, .slice none 0 0, .string ⟨#[]⟩, .int .i64 0, .int .i64 0, .int .i64 0, .slice none 0 0, .slice none 0 0, .string ⟨#[]⟩, .string ⟨#[]⟩, .int .i64 0, .string ⟨#[]⟩, .string ⟨#[]⟩, .int .u64 0] _ rfl rfl ?_ Try.underlying33 rfl rfl ?_
  case refine_1 => exact HE.out.1
  case refine_2 => exact ⟨HNO.out _ HNX.out, HE.out.2⟩
end Hd
end Go.Proofs.Ythlchdlgafincaa

/-
  gafferref09.Decode.
-/
namespace Go.Proofs.Ythlchdlgafincaa
open Go.RowKit
namespace Hd
open PM Hc
set_option maxRecDepth 100000 in
set_option maxHeartbeats 2000000 in
theorem dcd_node (l : List UInt8) (w : World) (hl : l.length ≤ maxLen) (hk : tnN (tnR (tnR l)) = 1) (hf : (((false || decide (tnW l ≠ 0)) || decide (tnW (tnR l) ≠ 0)) || decide (tnW (tnR (tnR l)) ≠ 0)) = false) :
    Calls Try.prog 13 #[.string (bs l)] w fun e w' => DcIs l w.heap.size e w' ∧ Below w.heap.size w w' := by
  have HD0 : Hdr l (tnN l) (tnN (tnR l)) (tnN (tnR (tnR l))) (tnR (tnR (tnR l))) (((false || decide (tnW l ≠ 0)) || decide (tnW (tnR l) ≠ 0)) || decide (tnW (tnR (tnR l)) ≠ 0)) := ((sp_num l false).and (sp_num (tnR l) _)).and (sp_num (tnR (tnR l)) _)
  have K0 := Lib.hid (fun g z (hz : Tk z g l false) => bag_number g l false z hz hl)
  have K1 := Lib.hid (fun g z (hz : Tk z g (tnR l) (false || decide (tnW l ≠ 0))) => bag_number g (tnR l) _ z hz (Nat.le_trans (tnR_length l) hl))
  have K2 := Lib.hid (fun g z (hz : Tk z g (tnR (tnR l)) ((false || decide (tnW l ≠ 0)) || decide (tnW (tnR l) ≠ 0))) => bag_number g (tnR (tnR l)) _ z hz (Nat.le_trans (tnR_length _) (Nat.le_trans (tnR_length l) hl)))
  have HL3 := Lib.hid (Nat.le_trans (tnR_length (tnR (tnR l))) (Nat.le_trans (tnR_length (tnR l)) (tnR_length l)))
  have HN0 := Lib.hid (tnN_lt l)
  have HN1 := Lib.hid (tnN_lt (tnR l))
  have HML := Lib.hid hl
  have HNO := Lib.hid (fun z (h : dcOk l = false) => DcIs.no w.heap.size z h)
  have HYE := Lib.hid (fun (h : dcOk l = true) z v2 v3 v4 v5 hr => DcIs.yes (base := w.heap.size) (w' := z) (v2 := v2) (v3 := v3) (v4 := v4) (v5 := v5) h hr)
  have HBE : Hid (Below w.heap.size w (w.alloc (.cells #[.int .u64 0, .int .u64 0, .int .u8 0, .string ⟨#[]⟩, .int .i64 0, .int .i64 0, .int .i64 0, .slice none 0 0, .slice none 0 0, .string ⟨#[]⟩, .int .i64 0, .int .i64 0, .int .i64 0, .slice none 0 0, .slice none 0 0, .string ⟨#[]⟩, .string ⟨#[]⟩, .int .i64 0, .string ⟨#[]⟩, .string ⟨#[]⟩, .int .u64 0] 33))) := (Below.refl _ _).alloc (Nat.le_refl _) _
  have HRB : Hid (Bxn (w.alloc (.cells #[.int .u64 0, .int .u64 0, .int .u8 0, .string ⟨#[]⟩, .int .i64 0, .int .i64 0, .int .i64 0, .slice none 0 0, .slice none 0 0, .string ⟨#[]⟩, .int .i64 0, .int .i64 0, .int .i64 0, .slice none 0 0, .slice none 0 0, .string ⟨#[]⟩, .string ⟨#[]⟩, .int .i64 0, .string ⟨#[]⟩, .string ⟨#[]⟩, .int .u64 0] 33)) w.heap.size [.int .u64 0, .int .u64 0, .int .u8 0, .string ⟨#[]⟩, .int .i64 0, .int .i64 0, .int .i64 0, .slice none 0 0, .slice none 0 0, .string ⟨#[]⟩, .int .i64 0, .int .i64 0, .int .i64 0, .slice none 0 0, .slice none 0 0, .string ⟨#[]⟩, .string ⟨#[]⟩, .int .i64 0, .string ⟨#[]⟩, .string ⟨#[]⟩, .int .u64 0]) := Bxn.made w _ _
  have KN := Lib.hid (fun g z (hz : Tk z g (tnR (tnR (tnR l))) false) => bag_node g (tnR (tnR (tnR l))) false z hz (Nat.le_trans HL3.out hl))
  generalize tnR (tnR (tnR l)) = r3 at *
  generalize tnN (tnR (tnR l)) = n2 at *
  generalize tnN (tnR l) = n1 at *
  generalize tnN l = n0 at *
  generalize (((false || decide (tnW l ≠ 0)) || decide (tnW (tnR l) ≠ 0)) || decide (tnW (tnR (tnR l)) ≠ 0)) = b2 at *
  have HD := Lib.hid HD0
  clear HD0 hl
  go_enter Try.func13, Try.ntmps13
  go_upto_region 1 with fail
  generalize w.alloc (.cells #[.int .u64 0, .int .u64 0, .int .u8 0, .string ⟨#[]⟩, .int .i64 0, .int .i64 0, .int .i64 0, .slice none 0 0, .slice none 0 0, .string ⟨#[]⟩, .int .i64 0, .int .i64 0, .int .i64 0, .slice none 0 0, .slice none 0 0, .string ⟨#[]⟩, .string ⟨#[]⟩, .int .i64 0, .string ⟨#[]⟩, .string ⟨#[]⟩, .int .u64 0] 33) = W0 at *
  go_wp2_with fail
  refine (K0.out _ _ (Tk.made _ W0 l false)).mono ?_
  rintro e x1 ⟨rfl, h1, ho1⟩
  have HZ0 := Lib.hid (Dz.made [.int .u64 0, .int .u64 0, .int .u8 0, .string ⟨#[]⟩, .int .i64 0, .int .i64 0, .int .i64 0, .slice none 0 0, .slice none 0 0, .string ⟨#[]⟩, .int .i64 0, .int .i64 0, .int .i64 0, .slice none 0 0, .slice none 0 0, .string ⟨#[]⟩, .string ⟨#[]⟩, .int .i64 0, .string ⟨#[]⟩, .string ⟨#[]⟩, .int .u64 0] [.int .u64 0, .int .u64 0, .int .u8 0, .string ⟨#[]⟩, .int .i64 0, .int .i64 0, .int .i64 0, .slice none 0 0, .slice none 0 0, .string ⟨#[]⟩, .int .i64 0, .int .i64 0, .int .i64 0, .slice none 0 0, .slice none 0 0, .string ⟨#[]⟩, .string ⟨#[]⟩, .int .i64 0, .string ⟨#[]⟩, .string ⟨#[]⟩, .int .u64 0] 76 33 HRB.out HBE.out h1 ho1)
  have HZ1 := Lib.hid (HZ0.out.call [.int .u64 (n0 : Nat), .int .u64 0, .int .u8 0, .string ⟨#[]⟩, .int .i64 0, .int .i64 0, .int .i64 0, .slice none 0 0, .slice none 0 0, .string ⟨#[]⟩, .int .i64 0, .int .i64 0, .int .i64 0, .slice none 0 0, .slice none 0 0, .string ⟨#[]⟩, .string ⟨#[]⟩, .int .i64 0, .string ⟨#[]⟩, .string ⟨#[]⟩, .int .u64 0] rfl)
  have hth := HZ0.out.bx.there 21 rfl
  clear h1 ho1 HBE HRB K0 HZ0
  dsimp only
  refine ‹∀ (a : Act) (w : World), wpList Try.prog _ _ _ a w → _› _ _ ?_
  refine wpList_plain rfl fun K hK => ?_
  go_simp
  refine hK _ _ ?_
  clear hK K
  refine wpList_plain rfl fun K hK => ?_
  go_simp
  refine hK _ _ ?_
  clear hK K
  refine wpList_store_mid rfl 33 (.tmp 5) (.tmp 13) rfl x1.heap.size 0 #[.int .u64 (n0 : Nat), .int .u64 0, .int .u8 0, .string ⟨#[]⟩, .int .i64 0, .int .i64 0, .int .i64 0, .slice none 0 0, .slice none 0 0, .string ⟨#[]⟩, .int .i64 0, .int .i64 0, .int .i64 0, .slice none 0 0, .slice none 0 0, .string ⟨#[]⟩, .string ⟨#[]⟩, .int .i64 0, .string ⟨#[]⟩, .string ⟨#[]⟩, .int .u64 0] rfl rfl hth rfl (all_oneCell_toArray (cdC_one (cd0 n0 0 0) nilS nilS nilS nilS rfl rfl rfl rfl)) ?_
  clear hth
  refine wpList_nil ?_
  rw [show (#[.int .u64 (n0 : Nat), .int .u64 0, .int .u8 0, .string ⟨#[]⟩, .int .i64 0, .int .i64 0, .int .i64 0, .slice none 0 0, .slice none 0 0, .string ⟨#[]⟩, .int .i64 0, .int .i64 0, .int .i64 0, .slice none 0 0, .slice none 0 0, .string ⟨#[]⟩, .string ⟨#[]⟩, .int .i64 0, .string ⟨#[]⟩, .string ⟨#[]⟩, .int .u64 0] : Array Value).toList = [.int .u64 (n0 : Nat), .int .u64 0, .int .u8 0, .string ⟨#[]⟩, .int .i64 0, .int .i64 0, .int .i64 0, .slice none 0 0, .slice none 0 0, .string ⟨#[]⟩, .int .i64 0, .int .i64 0, .int .i64 0, .slice none 0 0, .slice none 0 0, .string ⟨#[]⟩, .string ⟨#[]⟩, .int .i64 0, .string ⟨#[]⟩, .string ⟨#[]⟩, .int .u64 0] from rfl]
  generalize (x1.alloc (.cells #[.int .u64 0, .int .u64 0, .int .u8 0, .string ⟨#[]⟩, .int .i64 0, .int .i64 0, .int .i64 0, .slice none 0 0, .slice none 0 0, .string ⟨#[]⟩, .int .i64 0, .int .i64 0, .int .i64 0, .slice none 0 0, .slice none 0 0, .string ⟨#[]⟩, .string ⟨#[]⟩, .int .i64 0, .string ⟨#[]⟩, .string ⟨#[]⟩, .int .u64 0] 33)).setCells x1.heap.size 0 [.int .u64 (n0 : Nat), .int .u64 0, .int .u8 0, .string ⟨#[]⟩, .int .i64 0, .int .i64 0, .int .i64 0, .slice none 0 0, .slice none 0 0, .string ⟨#[]⟩, .int .i64 0, .int .i64 0, .int .i64 0, .slice none 0 0, .slice none 0 0, .string ⟨#[]⟩, .string ⟨#[]⟩, .int .i64 0, .string ⟨#[]⟩, .string ⟨#[]⟩, .int .u64 0] = W1 at *
  generalize x1.heap.size = C at *
  generalize W0.heap.size = G at *
  go_wp2_with fail
  refine (K1.out _ _ HZ1.out.tk).mono ?_
  rintro e x2 ⟨rfl, h1, ho1⟩
  have HZ2 := Lib.hid (HZ1.out.go h1 ho1)
  have c1 : x2.cell? ⟨C, 1, none⟩ = some (.int .u64 0) := HZ2.out.bx.cell 1
  have f1 := HZ2.out.bx.fz 1
  have HZ3 := Lib.hid (HZ2.out.p 1 (.int .u64 (n1 : Nat)))
  clear h1 ho1 K1 HZ1
  go_wp2_with fail
  refine (K2.out _ _ HZ3.out.tk).mono ?_
  rintro e x3 ⟨rfl, h1, ho1⟩
  have HZ4 := Lib.hid (HZ3.out.go h1 ho1)
  clear h1 ho1 K2 HZ2 HZ3 c1 f1
  obtain ⟨c0, c1, g0, g1⟩ := HZ4.out.tk.cells
  subst hk hf
  have tk : IntKind.u8.wrap (1) = 1 := by rw [IntKind.wrap_u8]; omega
  have HSZ := Lib.hid (Dy.made [.int .u8 0, .string ⟨#[]⟩, .int .i64 0, .int .i64 0, .int .i64 0, .slice none 0 0, .slice none 0 0, .string ⟨#[]⟩, .int .i64 0, .int .i64 0, .int .i64 0, .slice none 0 0, .slice none 0 0, .string ⟨#[]⟩, .string ⟨#[]⟩, .int .i64 0, .string ⟨#[]⟩, .string ⟨#[]⟩, .int .u64 0] 31 HZ4.out)
  have HS0 := Lib.hid (HSZ.out.oall [.int .u8 (1), .string ⟨#[]⟩, .int .i64 0, .int .i64 0, .int .i64 0, .slice none 0 0, .slice none 0 0, .string ⟨#[]⟩, .int .i64 0, .int .i64 0, .int .i64 0, .slice none 0 0, .slice none 0 0, .string ⟨#[]⟩, .string ⟨#[]⟩, .int .i64 0, .string ⟨#[]⟩, .string ⟨#[]⟩, .int .u64 0] rfl)
  have hth := HSZ.out.ob.there 19 rfl
  clear HSZ
  go_upto_region 7 with fail
  refine wp_region_list ?_
  refine wpList_plain rfl fun K hK => ?_
  go_simp
  refine hK _ _ ?_
  clear hK K
  refine wpList_plain rfl fun K hK => ?_
  go_simp
  refine hK _ _ ?_
  clear hK K
  refine wpList_plain rfl fun K hK => ?_
  go_simp
  refine hK _ _ ?_
  clear hK K
  refine wpList_plain rfl fun K hK => ?_
  go_simp
  refine hK _ _ ?_
  clear hK K
  refine wpList_store_mid rfl 31 (.tmp 7) (.tmp 34) rfl x3.heap.size 0 #[.int .u8 (1), .string ⟨#[]⟩, .int .i64 0, .int .i64 0, .int .i64 0, .slice none 0 0, .slice none 0 0, .string ⟨#[]⟩, .int .i64 0, .int .i64 0, .int .i64 0, .slice none 0 0, .slice none 0 0, .string ⟨#[]⟩, .string ⟨#[]⟩, .int .i64 0, .string ⟨#[]⟩, .string ⟨#[]⟩, .int .u64 0] rfl rfl hth rfl (all_oneCell_toArray (orC_one (cd0 0 0 (1)) nilS nilS nilS nilS rfl rfl rfl rfl)) ?_
  clear hth
  refine wpList_nil ?_
  rw [show (#[.int .u8 (1), .string ⟨#[]⟩, .int .i64 0, .int .i64 0, .int .i64 0, .slice none 0 0, .slice none 0 0, .string ⟨#[]⟩, .int .i64 0, .int .i64 0, .int .i64 0, .slice none 0 0, .slice none 0 0, .string ⟨#[]⟩, .string ⟨#[]⟩, .int .i64 0, .string ⟨#[]⟩, .string ⟨#[]⟩, .int .u64 0] : Array Value).toList = [.int .u8 (1), .string ⟨#[]⟩, .int .i64 0, .int .i64 0, .int .i64 0, .slice none 0 0, .slice none 0 0, .string ⟨#[]⟩, .int .i64 0, .int .i64 0, .int .i64 0, .slice none 0 0, .slice none 0 0, .string ⟨#[]⟩, .string ⟨#[]⟩, .int .i64 0, .string ⟨#[]⟩, .string ⟨#[]⟩, .int .u64 0] from rfl]
  generalize (x3.alloc (.cells #[.int .u8 0, .string ⟨#[]⟩, .int .i64 0, .int .i64 0, .int .i64 0, .slice none 0 0, .slice none 0 0, .string ⟨#[]⟩, .int .i64 0, .int .i64 0, .int .i64 0, .slice none 0 0, .slice none 0 0, .string ⟨#[]⟩, .string ⟨#[]⟩, .int .i64 0, .string ⟨#[]⟩, .string ⟨#[]⟩, .int .u64 0] 31)).setCells x3.heap.size 0 [.int .u8 (1), .string ⟨#[]⟩, .int .i64 0, .int .i64 0, .int .i64 0, .slice none 0 0, .slice none 0 0, .string ⟨#[]⟩, .int .i64 0, .int .i64 0, .int .i64 0, .slice none 0 0, .slice none 0 0, .string ⟨#[]⟩, .string ⟨#[]⟩, .int .i64 0, .string ⟨#[]⟩, .string ⟨#[]⟩, .int .u64 0] = W3 at *
  generalize x3.heap.size = O at *
  clear c0 c1 g0 g1 HZ4
  have o0 : W3.cell? ⟨O, 0, none⟩ = some (.int .u8 1) := HS0.out.ob.cell 0
  go_wp2_with fail
  refine (KN.out _ _ HS0.out.z.tk).mono ?_
  rintro e x4 ⟨n, v2, v3, r, f, rfl, hv2, hv3, h1, ho1, hsp, ht⟩
  have hlt0 := HS0.out.ob.lt
  have HS1 := Lib.hid (HS0.out.go h1 ho1)
  have HV0 := Lib.hid (HD.out.node hsp)
  have HT0 := Lib.hid ht
  have hown := only_setCells O (bnC n v2 v3) 1 x4
  have HO2 : Hid (OwnP (x4.setCells O 1 (bnC n v2 v3)) (O + 1) v2 n.ls) := (hv2.less (by omega)).only hown ((hv2.less (b2 := O + 1) (by omega)).far (by omega))
  have HO3 : Hid (OwnP (x4.setCells O 1 (bnC n v2 v3)) (O + 1) v3 n.ts) := (hv3.less (by omega)).only hown ((hv3.less (b2 := O + 1) (by omega)).far (by omega))
  obtain ⟨sa2, sc2, rfl⟩ := hv2.slice
  obtain ⟨sa3, sc3, rfl⟩ := hv3.slice
  have HS2 := Lib.hid (HS1.out.mid 1 (bnC n (.slice sa2 n.ls.length sc2) (.slice sa3 n.ts.length sc3)) (by show _ ≤ 19; simp [bnC]))
  have hth := HS1.out.ob.mthere 1 6 (by simp)
  clear h1 ho1 hsp ht hv2 hv3 hown hlt0 HD KN
  dsimp only
  refine ‹∀ (a : Act) (w : World), wpList Try.prog _ _ _ a w → _› _ _ ?_
  refine wpList_plain rfl fun K hK => ?_
  go_simp
  refine hK _ _ ?_
  clear hK K
  refine wpList_store_mid rfl 27 (.tmp 40) (.tmp 39) rfl O 1 (bnC n (.slice sa2 n.ls.length sc2) (.slice sa3 n.ts.length sc3)).toArray rfl rfl hth rfl (all_oneCell_toArray (by simp [bnC, Value.oneCell'])) ?_
  clear hth
  refine wpList_nil ?_
  rw [show (bnC n (.slice sa2 n.ls.length sc2) (.slice sa3 n.ts.length sc3)).toArray.toList = (bnC n (.slice sa2 n.ls.length sc2) (.slice sa3 n.ts.length sc3)) from rfl]
  generalize x4.setCells O 1 (bnC n (.slice sa2 n.ls.length sc2) (.slice sa3 n.ts.length sc3)) = W4 at *
  have o1 : W4.cell? ⟨O, 0, none⟩ = some (.int .u8 1) := HS2.out.ob.cell 0
  go_wp2_with fail
  refine (named_no 1 (by simp) _).mono ?_
  rintro e x5 ⟨rfl, rfl⟩
  obtain ⟨v2, v3, v4, v5, HS, HRW⟩ : ∃ v2 v3 v4 v5, Hid (Dy w G C O r f [.int .u64 ((⟨n0, n1, 1, n, td0, ⟨#[]⟩, ⟨#[]⟩, 0⟩ : Cd).cl : Nat), .int .u64 ((⟨n0, n1, 1, n, td0, ⟨#[]⟩, ⟨#[]⟩, 0⟩ : Cd).sq : Nat), .int .u8 0, .string ⟨#[]⟩, .int .i64 0, .int .i64 0, .int .i64 0, .slice none 0 0, .slice none 0 0, .string ⟨#[]⟩, .int .i64 0, .int .i64 0, .int .i64 0, .slice none 0 0, .slice none 0 0, .string ⟨#[]⟩, .string ⟨#[]⟩, .int .i64 0, .string ⟨#[]⟩, .string ⟨#[]⟩, .int .u64 0] (orC ⟨n0, n1, 1, n, td0, ⟨#[]⟩, ⟨#[]⟩, 0⟩ v2 v3 v4 v5) [.int .u64 0, .int .u64 0, .int .u8 0, .string ⟨#[]⟩, .int .i64 0, .int .i64 0, .int .i64 0, .slice none 0 0, .slice none 0 0, .string ⟨#[]⟩, .int .i64 0, .int .i64 0, .int .i64 0, .slice none 0 0, .slice none 0 0, .string ⟨#[]⟩, .string ⟨#[]⟩, .int .i64 0, .string ⟨#[]⟩, .string ⟨#[]⟩, .int .u64 0] (W4)) ∧ Hid (Rows (W4) (O + 1) ⟨n0, n1, 1, n, td0, ⟨#[]⟩, ⟨#[]⟩, 0⟩ v2 v3 v4 v5) := ⟨_, _, nilS, nilS, HS2.out, ⟨HO2.out, HO3.out, OwnP.nil _ _, OwnP.nil _ _⟩⟩
  have HV : Hid (Vd l ⟨n0, n1, 1, n, td0, ⟨#[]⟩, ⟨#[]⟩, 0⟩ r f) := HV0.out
  have HBN : Hid (Bnd ⟨n0, n1, 1, n, td0, ⟨#[]⟩, ⟨#[]⟩, 0⟩) := ⟨HN0.out, HN1.out, by show 1 < 256; omega, by show 0 < 2 ^ 64; omega⟩
  have HTK : Hid (TookC ⟨n0, n1, 1, n, td0, ⟨#[]⟩, ⟨#[]⟩, 0⟩ maxLen) := ⟨HT0.out.1, HT0.out.2.1, nil_took _, nil_took _⟩
  have HLN : Hid (Lens ⟨n0, n1, 1, n, td0, ⟨#[]⟩, ⟨#[]⟩, 0⟩) := ⟨HT0.out.2.2, Nat.zero_le _, Nat.zero_le _, Nat.zero_le _, Nat.zero_le _, Nat.zero_le _⟩
  generalize (⟨n0, n1, 1, n, td0, ⟨#[]⟩, ⟨#[]⟩, 0⟩ : Cd) = CC at *
  generalize W4 = X at *
  clear HS0 HS1 HS2 HO2 HO3 HV0 HT0 HN0 HN1 o0
  obtain ⟨s2, d2, rfl⟩ := HRW.out.1.slice
  obtain ⟨s3, d3, rfl⟩ := HRW.out.2.1.slice
  obtain ⟨s4, d4, rfl⟩ := HRW.out.2.2.1.slice
  obtain ⟨s5, d5, rfl⟩ := HRW.out.2.2.2.slice
  have hlo := HS.out.lo
  have hth := HS.out.z.bx.mthere 2 19 (by show 2 + 19 ≤ 21; omega)
  have hone := all_oneCell_toArray (orC_one CC (.slice s2 CC.nd.ls.length d2) (.slice s3 CC.nd.ts.length d3) (.slice s4 CC.td.ws.length d4) (.slice s5 CC.td.bs.length d5) rfl rfl rfl rfl)
  have HZ5 : Hid (Dz w G C r f (cdC CC (.slice s2 CC.nd.ls.length d2) (.slice s3 CC.nd.ts.length d3) (.slice s4 CC.td.ws.length d4) (.slice s5 CC.td.bs.length d5)) [.int .u64 0, .int .u64 0, .int .u8 0, .string ⟨#[]⟩, .int .i64 0, .int .i64 0, .int .i64 0, .slice none 0 0, .slice none 0 0, .string ⟨#[]⟩, .int .i64 0, .int .i64 0, .int .i64 0, .slice none 0 0, .slice none 0 0, .string ⟨#[]⟩, .string ⟨#[]⟩, .int .i64 0, .string ⟨#[]⟩, .string ⟨#[]⟩, .int .u64 0] (X.setCells C 2 (orC CC (.slice s2 CC.nd.ls.length d2) (.slice s3 CC.nd.ts.length d3) (.slice s4 CC.td.ws.length d4) (.slice s5 CC.td.bs.length d5)))) := HS.out.com 2 (orC CC (.slice s2 CC.nd.ls.length d2) (.slice s3 CC.nd.ts.length d3) (.slice s4 CC.td.ws.length d4) (.slice s5 CC.td.bs.length d5)) (by show 2 + 19 ≤ 21; omega)
  have HR5 := Lib.hid (HRW.out.off (only_setCells C (orC CC (.slice s2 CC.nd.ls.length d2) (.slice s3 CC.nd.ts.length d3) (.slice s4 CC.td.ws.length d4) (.slice s5 CC.td.bs.length d5)) 2 X) (by omega))
  go_upto_region 17 with fail
  refine wp_region_list ?_
  refine wpList_load_mid rfl 31 (.tmp 7) rfl O 0 rfl (orC CC (.slice s2 CC.nd.ls.length d2) (.slice s3 CC.nd.ts.length d3) (.slice s4 CC.td.ws.length d4) (.slice s5 CC.td.bs.length d5)) _ (HS.out.ob.range 0) Try.underlying31 rfl rfl ?_
  refine wpList_plain rfl fun K hK => ?_
  go_simp
  refine hK _ _ ?_
  clear hK K
  refine wpList_store_mid rfl 31 (.tmp 63) (.tmp 62) rfl C 2 (orC CC (.slice s2 CC.nd.ls.length d2) (.slice s3 CC.nd.ts.length d3) (.slice s4 CC.td.ws.length d4) (.slice s5 CC.td.bs.length d5)).toArray rfl rfl hth rfl hone ?_
  clear hth hone
  refine wpList_nil ?_
  rw [show (orC CC (.slice s2 CC.nd.ls.length d2) (.slice s3 CC.nd.ts.length d3) (.slice s4 CC.td.ws.length d4) (.slice s5 CC.td.bs.length d5)).toArray.toList = (orC CC (.slice s2 CC.nd.ls.length d2) (.slice s3 CC.nd.ts.length d3) (.slice s4 CC.td.ws.length d4) (.slice s5 CC.td.bs.length d5)) from rfl]
  generalize X.setCells C 2 (orC CC (.slice s2 CC.nd.ls.length d2) (.slice s3 CC.nd.ts.length d3) (.slice s4 CC.td.ws.length d4) (.slice s5 CC.td.bs.length d5)) = W5 at *
  clear HS HRW
  obtain ⟨c0, c1, g0, g1⟩ := HZ5.out.tk.cells
  cases f with
  | true =>
    have HNX := Lib.hid (HV.out.nof HML.out)
    go_upto_region 19 with fail
    refine wp_region_list ?_
    refine wpList_plain rfl fun K hK => ?_
    go_simp
    refine hK _ _ ?_
    clear hK K
    have hth := HZ5.out.rb.there 21 rfl
    have HE := Lib.hid (HZ5.out.all [.int .u64 0, .int .u64 0, .int .u8 0, .string ⟨#[]⟩, .int .i64 0, .int .i64 0, .int .i64 0, .slice none 0 0, .slice none 0 0, .string ⟨#[]⟩, .int .i64 0, .int .i64 0, .int .i64 0, .slice none 0 0, .slice none 0 0, .string ⟨#[]⟩, .string ⟨#[]⟩, .int .i64 0, .string ⟨#[]⟩, .string ⟨#[]⟩, .int .u64 0] rfl)
    refine wpList_store_mid rfl 33 (.tmp 2) (.tmp 80) rfl w.heap.size 0 #[.int .u64 0, .int .u64 0, .int .u8 0, .string ⟨#[]⟩, .int .i64 0, .int .i64 0, .int .i64 0, .slice none 0 0, .slice none 0 0, .string ⟨#[]⟩, .int .i64 0, .int .i64 0, .int .i64 0, .slice none 0 0, .slice none 0 0, .string ⟨#[]⟩, .string ⟨#[]⟩, .int .i64 0, .string ⟨#[]⟩, .string ⟨#[]⟩, .int .u64 0] rfl rfl hth rfl (all_oneCell_toArray (cdC_one (cd0 0 0 0) nilS nilS nilS nilS rfl rfl rfl rfl)) ?_
    clear hth
    go_wp2
    refine bodyPost_bx2 rfl w.heap.size [.int .u64 0, .int .u64 0, .int .u8 0, .string ⟨#[]⟩, .int .i64 0, .int .i64 0, .int .i64 0, .slice none 0 0, .slice none 0 0, .string ⟨#[]⟩, .int .i64 0, .int .i64 0, .int .i64 0, .slice none 0 0, .slice none 0 0, .string ⟨#[]⟩, .string ⟨#[]⟩, .int .i64 0, .string ⟨#[]⟩, .string ⟨#[]⟩, .int .u64 0] _ rfl rfl ?_ Try.underlying33 rfl rfl ?_
    case refine_1 => exact HE.out.1
    case refine_2 => exact ⟨HNO.out _ HNX.out, HE.out.2⟩
  | false =>
    by_cases hr : r = []
    · subst hr
      have e2 : (bs ([] : List UInt8)).toList = [] := (bs_nil _).2 rfl
      have HPR := Lib.hid (HR5.out.prs HTK.out)
      go_upto_region 18 with fail
      refine wp_region_list ?_
      refine wpList_plain rfl fun K hK => ?_
      go_simp
      refine hK _ _ ?_
      clear hK K
      refine wpList_plain rfl fun K hK => ?_
      go_simp
      refine hK _ _ ?_
      clear hK K
      refine wpList_plain rfl fun K hK => ?_
      go_simp
      refine hK _ _ ?_
      clear hK K
      refine wpList_plain rfl fun K hK => ?_
      go_simp
      refine hK _ _ ?_
      clear hK K
      refine wpList_plain rfl fun K hK => ?_
      go_simp
      refine hK _ _ ?_
      clear hK K
      refine BigFrame.wpList_want rfl fun K hK => ?_
      go_simp
      refine hK _ _ ?_
      clear hK K
      refine BigFrame.wpList_want rfl fun K hK => ?_
      go_simp
      refine hK _ _ ?_
      clear hK K
      refine BigFrame.wpList_want rfl fun K hK => ?_
      go_simp
      refine hK _ _ ?_
      clear hK K
      refine BigFrame.wpList_want rfl fun K hK => ?_
      go_simp
      refine hK _ _ ?_
      clear hK K
      refine BigFrame.wpList_want rfl fun K hK => ?_
      go_simp
      refine hK _ _ ?_
      clear hK K
      refine wpList_plain rfl fun K hK => ?_
      go_simp
      refine hK _ _ ?_
      clear hK K
      refine wpList_plain rfl fun K hK => ?_
      go_simp
      refine hK _ _ ?_
      clear hK K
      refine wl_load_want rfl 33 (.tmp 5) rfl C 0 rfl (cdC CC (.slice s2 CC.nd.ls.length d2) (.slice s3 CC.nd.ts.length d3) (.slice s4 CC.td.ws.length d4) (.slice s5 CC.td.bs.length d5)) _ (HZ5.out.bx.range 0) Try.underlying33 rfl rfl ?_
      have hc := fun z (hp : PrsIn z z.heap.size CC (.slice s2 CC.nd.ls.length d2) (.slice s3 CC.nd.ts.length d3) (.slice s4 CC.td.ws.length d4) (.slice s5 CC.td.bs.length d5)) => check_ref9 CC _ _ _ _ z hp HLN.out
      cases hk : ckB CC with
      | false =>
        rw [hk] at hc
        have HNX := Lib.hid (HV.out.noc HML.out hk)
        have HC := Lib.hid hc
        clear hc hk
        go_wp2_with fail
        refine (HC.out _ HPR.out).mono ?_
        rintro e x5 ⟨rfl, hb⟩
        have HZ6 := Lib.hid (HZ5.out.below hb)
        clear hb c0 c1 g0 g1
        go_upto_region 19 with fail
        refine wp_region_list ?_
        refine wpList_plain rfl fun K hK => ?_
        go_simp
        refine hK _ _ ?_
        clear hK K
        have hth := HZ6.out.rb.there 21 rfl
        have HE := Lib.hid (HZ6.out.all [.int .u64 0, .int .u64 0, .int .u8 0, .string ⟨#[]⟩, .int .i64 0, .int .i64 0, .int .i64 0, .slice none 0 0, .slice none 0 0, .string ⟨#[]⟩, .int .i64 0, .int .i64 0, .int .i64 0, .slice none 0 0, .slice none 0 0, .string ⟨#[]⟩, .string ⟨#[]⟩, .int .i64 0, .string ⟨#[]⟩, .string ⟨#[]⟩, .int .u64 0] rfl)
        refine wpList_store_mid rfl 33 (.tmp 2) (.tmp 80) rfl w.heap.size 0 #[.int .u64 0, .int .u64 0, .int .u8 0, .string ⟨#[]⟩, .int .i64 0, .int .i64 0, .int .i64 0, .slice none 0 0, .slice none 0 0, .string ⟨#[]⟩, .int .i64 0, .int .i64 0, .int .i64 0, .slice none 0 0, .slice none 0 0, .string ⟨#[]⟩, .string ⟨#[]⟩, .int .i64 0, .string ⟨#[]⟩, .string ⟨#[]⟩, .int .u64 0] rfl rfl hth rfl (all_oneCell_toArray (cdC_one (cd0 0 0 0) nilS nilS nilS nilS rfl rfl rfl rfl)) ?_
        clear hth
        go_wp2
        refine bodyPost_bx2 rfl w.heap.size [.int .u64 0, .int .u64 0, .int .u8 0, .string ⟨#[]⟩, .int .i64 0, .int .i64 0, .int .i64 0, .slice none 0 0, .slice none 0 0, .string ⟨#[]⟩, .int .i64 0, .int .i64 0, .int .i64 0, .slice none 0 0, .slice none 0 0, .string ⟨#[]⟩, .string ⟨#[]⟩, .int .i64 0, .string ⟨#[]⟩, .string ⟨#[]⟩, .int .u64 0] _ rfl rfl ?_ Try.underlying33 rfl rfl ?_
        case refine_1 => exact HE.out.1
        case refine_2 => exact ⟨HNO.out _ HNX.out, HE.out.2⟩
      | true =>
        rw [hk] at hc
        obtain ⟨y1, y2⟩ := HV.out.yes HBN.out hk
        have HY := Lib.hid (fun z v2 v3 v4 v5 hr => HYE.out y1 z v2 v3 v4 v5 hr)
        rw [y2] at HY
        have HC := Lib.hid hc
        clear hc hk y1 y2
        go_wp2_with fail
        refine (HC.out _ HPR.out).mono ?_
        rintro e x5 ⟨rfl, hb⟩
        have HZ6 := Lib.hid (HZ5.out.below hb)
        have HR6 := Lib.hid (HR5.out.below hb)
        clear hb c0 c1 g0 g1
        have hlg := HZ6.out.lg
        have hlc := HZ6.out.lc
        have hth := HZ6.out.rb.there 21 rfl
        have hone := all_oneCell_toArray (cdC_one CC (.slice s2 CC.nd.ls.length d2) (.slice s3 CC.nd.ts.length d3) (.slice s4 CC.td.ws.length d4) (.slice s5 CC.td.bs.length d5) rfl rfl rfl rfl)
        have HE := Lib.hid (HZ6.out.all (cdC CC (.slice s2 CC.nd.ls.length d2) (.slice s3 CC.nd.ts.length d3) (.slice s4 CC.td.ws.length d4) (.slice s5 CC.td.bs.length d5)) rfl)
        have HRE : Hid (Rows (x5.setCells w.heap.size 0 (cdC CC (.slice s2 CC.nd.ls.length d2) (.slice s3 CC.nd.ts.length d3) (.slice s4 CC.td.ws.length d4) (.slice s5 CC.td.bs.length d5))) w.heap.size CC (.slice s2 CC.nd.ls.length d2) (.slice s3 CC.nd.ts.length d3) (.slice s4 CC.td.ws.length d4) (.slice s5 CC.td.bs.length d5)) := (HR6.out.off (only_setCells _ _ _ _) (by omega)).less (by omega)
        go_upto_region 20 with fail
        refine wp_region_list ?_
        refine wpList_load_mid rfl 33 (.tmp 5) rfl C 0 rfl (cdC CC (.slice s2 CC.nd.ls.length d2) (.slice s3 CC.nd.ts.length d3) (.slice s4 CC.td.ws.length d4) (.slice s5 CC.td.bs.length d5)) _ (HZ6.out.bx.range 0) Try.underlying33 rfl rfl ?_
        refine wpList_store_mid rfl 33 (.tmp 2) (.tmp 81) rfl w.heap.size 0 (cdC CC (.slice s2 CC.nd.ls.length d2) (.slice s3 CC.nd.ts.length d3) (.slice s4 CC.td.ws.length d4) (.slice s5 CC.td.bs.length d5)).toArray rfl rfl hth rfl hone ?_
        clear hth hone
        rw [show (cdC CC (.slice s2 CC.nd.ls.length d2) (.slice s3 CC.nd.ts.length d3) (.slice s4 CC.td.ws.length d4) (.slice s5 CC.td.bs.length d5)).toArray.toList = (cdC CC (.slice s2 CC.nd.ls.length d2) (.slice s3 CC.nd.ts.length d3) (.slice s4 CC.td.ws.length d4) (.slice s5 CC.td.bs.length d5)) from rfl]
        generalize x5.setCells w.heap.size 0 (cdC CC (.slice s2 CC.nd.ls.length d2) (.slice s3 CC.nd.ts.length d3) (.slice s4 CC.td.ws.length d4) (.slice s5 CC.td.bs.length d5)) = W6 at *
        go_wp2
        refine bodyPost_bx2 rfl w.heap.size (cdC CC (.slice s2 CC.nd.ls.length d2) (.slice s3 CC.nd.ts.length d3) (.slice s4 CC.td.ws.length d4) (.slice s5 CC.td.bs.length d5)) _ rfl rfl ?_ Try.underlying33 rfl rfl ?_
        case refine_1 => exact HE.out.1
        case refine_2 => exact ⟨HY.out _ _ _ _ _ HRE.out, HE.out.2⟩
    · have HNX := Lib.hid (HV.out.nor HML.out hr)
      have m1 : ¬ (bs r).toList = [] := fun h => hr ((bs_nil _).1 h)
      have m2 : (bs r).toList.isEmpty = false := by
        rw [← Bool.not_eq_true, List.isEmpty_iff]
        exact m1
      clear hr
      go_upto_region 19 with fail
      refine wp_region_list ?_
      refine wpList_plain rfl fun K hK => ?_
      go_simp
      refine hK _ _ ?_
      clear hK K
      have hth := HZ5.out.rb.there 21 rfl
      have HE := Lib.hid (HZ5.out.all [.int .u64 0, .int .u64 0, .int .u8 0, .string ⟨#[]⟩, .int .i64 0, .int .i64 0, .int .i64 0, .slice none 0 0, .slice none 0 0, .string ⟨#[]⟩, .int .i64 0, .int .i64 0, .int .i64 0, .slice none 0 0, .slice none 0 0, .string ⟨#[]⟩, .string ⟨#[]⟩, .int .i64 0, .string ⟨#[]⟩, .string ⟨#[]⟩, .int .u64 0] rfl)
      refine wpList_store_mid rfl 33 (.tmp 2) (.tmp 80) rfl w.heap.size 0 #[.int .u64 0, .int .u64 0, .int .u8 0, .string ⟨#[]⟩, .int .i64 0, .int .i64 0, .int .i64 0, .slice none 0 0, .slice none 0 0, .string ⟨#[]⟩, .int .i64 0, .int .i64 0, .int .i64 0, .slice none 0 0, .slice none 0 0, .string ⟨#[]⟩, .string ⟨#[]⟩, .int .i64 0, .string ⟨#[]⟩, .string ⟨#[]⟩, .int .u64 0] rfl rfl hth rfl (all_oneCell_toArray (cdC_one (cd0 0 0 0) nilS nilS nilS nilS rfl rfl rfl rfl)) ?_
      clear hth
      go_wp2
      refine bodyPost_bx2 rfl w.heap.size [.int .u64 0, .int .u64 0, .int .u8 0, .string ⟨#[]⟩, .int .i64 0, .int .i64 0, .int .i64 0, .slice none 0 0, .slice none 0 0, .string ⟨#[]⟩, .int .i64 0, .int .i64 0, .int .i64 0, .slice none 0 0, .slice none 0 0, .string ⟨#[]⟩, .string ⟨#[]⟩, .int .i64 0, .string ⟨#[]⟩, .string ⟨#[]⟩, .int .u64 0] _ rfl rfl ?_ Try.underlying33 rfl rfl ?_
      case refine_1 => exact HE.out.1
      case refine_2 => exact ⟨HNO.out _ HNX.out, HE.out.2⟩
end Hd
end Go.Proofs.Ythlchdlgafincaa

/-
  gafferref09.Decode.
-/
namespace Go.Proofs.Ythlchdlgafincaa
open Go.RowKit
namespace Hd
open PM Hc
set_option maxRecDepth 100000 in
set_option maxHeartbeats 2000000 in
theorem dcd_task (l : List UInt8) (w : World) (hl : l.length ≤ maxLen) (hk : tnN (tnR (tnR l)) = 3) (hf : (((false || decide (tnW l ≠ 0)) || decide (tnW (tnR l) ≠ 0)) || decide (tnW (tnR (tnR l)) ≠ 0)) = false) :
    Calls Try.prog 13 #[.string (bs l)] w fun e w' => DcIs l w.heap.size e w' ∧ Below w.heap.size w w' := by
  have HD0 : Hdr l (tnN l) (tnN (tnR l)) (tnN (tnR (tnR l))) (tnR (tnR (tnR l))) (((false || decide (tnW l ≠ 0)) || decide (tnW (tnR l) ≠ 0)) || decide (tnW (tnR (tnR l)) ≠ 0)) := ((sp_num l false).and (sp_num (tnR l) _)).and (sp_num (tnR (tnR l)) _)
  have K0 := Lib.hid (fun g z (hz : Tk z g l false) => bag_number g l false z hz hl)
  have K1 := Lib.hid (fun g z (hz : Tk z g (tnR l) (false || decide (tnW l ≠ 0))) => bag_number g (tnR l) _ z hz (Nat.le_trans (tnR_length l) hl))
  have K2 := Lib.hid (fun g z (hz : Tk z g (tnR (tnR l)) ((false || decide (tnW l ≠ 0)) || decide (tnW (tnR l) ≠ 0))) => bag_number g (tnR (tnR l)) _ z hz (Nat.le_trans (tnR_length _) (Nat.le_trans (tnR_length l) hl)))
  have HL3 := Lib.hid (Nat.le_trans (tnR_length (tnR (tnR l))) (Nat.le_trans (tnR_length (tnR l)) (tnR_length l)))
  have HN0 := Lib.hid (tnN_lt l)
  have HN1 := Lib.hid (tnN_lt (tnR l))
  have HML := Lib.hid hl
  have HNO := Lib.hid (fun z (h : dcOk l = false) => DcIs.no w.heap.size z h)
  have HYE := Lib.hid (fun (h : dcOk l = true) z v2 v3 v4 v5 hr => DcIs.yes (base := w.heap.size) (w' := z) (v2 := v2) (v3 := v3) (v4 := v4) (v5 := v5) h hr)
  have HBE : Hid (Below w.heap.size w (w.alloc (.cells #[.int .u64 0, .int .u64 0, .int .u8 0, .string ⟨#[]⟩, .int .i64 0, .int .i64 0, .int .i64 0, .slice none 0 0, .slice none 0 0, .string ⟨#[]⟩, .int .i64 0, .int .i64 0, .int .i64 0, .slice none 0 0, .slice none 0 0, .string ⟨#[]⟩, .string ⟨#[]⟩, .int .i64 0, .string ⟨#[]⟩, .string ⟨#[]⟩, .int .u64 0] 33))) := (Below.refl _ _).alloc (Nat.le_refl _) _
  have HRB : Hid (Bxn (w.alloc (.cells #[.int .u64 0, .int .u64 0, .int .u8 0, .string ⟨#[]⟩, .int .i64 0, .int .i64 0, .int .i64 0, .slice none 0 0, .slice none 0 0, .string ⟨#[]⟩, .int .i64 0, .int .i64 0, .int .i64 0, .slice none 0 0, .slice none 0 0, .string ⟨#[]⟩, .string ⟨#[]⟩, .int .i64 0, .string ⟨#[]⟩, .string ⟨#[]⟩, .int .u64 0] 33)) w.heap.size [.int .u64 0, .int .u64 0, .int .u8 0, .string ⟨#[]⟩, .int .i64 0, .int .i64 0, .int .i64 0, .slice none 0 0, .slice none 0 0, .string ⟨#[]⟩, .int .i64 0, .int .i64 0, .int .i64 0, .slice none 0 0, .slice none 0 0, .string ⟨#[]⟩, .string ⟨#[]⟩, .int .i64 0, .string ⟨#[]⟩, .string ⟨#[]⟩, .int .u64 0]) := Bxn.made w _ _
  have KT := Lib.hid (fun g z (hz : Tk z g (tnR (tnR (tnR l))) false) => bag_task g (tnR (tnR (tnR l))) false z hz (Nat.le_trans HL3.out hl))
  generalize tnR (tnR (tnR l)) = r3 at *
  generalize tnN (tnR (tnR l)) = n2 at *
  generalize tnN (tnR l) = n1 at *
  generalize tnN l = n0 at *
  generalize (((false || decide (tnW l ≠ 0)) || decide (tnW (tnR l) ≠ 0)) || decide (tnW (tnR (tnR l)) ≠ 0)) = b2 at *
  have HD := Lib.hid HD0
  clear HD0 hl
  go_enter Try.func13, Try.ntmps13
  go_upto_region 1 with fail
  generalize w.alloc (.cells #[.int .u64 0, .int .u64 0, .int .u8 0, .string ⟨#[]⟩, .int .i64 0, .int .i64 0, .int .i64 0, .slice none 0 0, .slice none 0 0, .string ⟨#[]⟩, .int .i64 0, .int .i64 0, .int .i64 0, .slice none 0 0, .slice none 0 0, .string ⟨#[]⟩, .string ⟨#[]⟩, .int .i64 0, .string ⟨#[]⟩, .string ⟨#[]⟩, .int .u64 0] 33) = W0 at *
  go_wp2_with fail
  refine (K0.out _ _ (Tk.made _ W0 l false)).mono ?_
  rintro e x1 ⟨rfl, h1, ho1⟩
  have HZ0 := Lib.hid (Dz.made [.int .u64 0, .int .u64 0, .int .u8 0, .string ⟨#[]⟩, .int .i64 0, .int .i64 0, .int .i64 0, .slice none 0 0, .slice none 0 0, .string ⟨#[]⟩, .int .i64 0, .int .i64 0, .int .i64 0, .slice none 0 0, .slice none 0 0, .string ⟨#[]⟩, .string ⟨#[]⟩, .int .i64 0, .string ⟨#[]⟩, .string ⟨#[]⟩, .int .u64 0] [.int .u64 0, .int .u64 0, .int .u8 0, .string ⟨#[]⟩, .int .i64 0, .int .i64 0, .int .i64 0, .slice none 0 0, .slice none 0 0, .string ⟨#[]⟩, .int .i64 0, .int .i64 0, .int .i64 0, .slice none 0 0, .slice none 0 0, .string ⟨#[]⟩, .string ⟨#[]⟩, .int .i64 0, .string ⟨#[]⟩, .string ⟨#[]⟩, .int .u64 0] 76 33 HRB.out HBE.out h1 ho1)
  have HZ1 := Lib.hid (HZ0.out.call [.int .u64 (n0 : Nat), .int .u64 0, .int .u8 0, .string ⟨#[]⟩, .int .i64 0, .int .i64 0, .int .i64 0, .slice none 0 0, .slice none 0 0, .string ⟨#[]⟩, .int .i64 0, .int .i64 0, .int .i64 0, .slice none 0 0, .slice none 0 0, .string ⟨#[]⟩, .string ⟨#[]⟩, .int .i64 0, .string ⟨#[]⟩, .string ⟨#[]⟩, .int .u64 0] rfl)
  have hth := HZ0.out.bx.there 21 rfl
  clear h1 ho1 HBE HRB K0 HZ0
  dsimp only
  refine ‹∀ (a : Act) (w : World), wpList Try.prog _ _ _ a w → _› _ _ ?_
  refine wpList_plain rfl fun K hK => ?_
  go_simp
  refine hK _ _ ?_
  clear hK K
  refine wpList_plain rfl fun K hK => ?_
  go_simp
  refine hK _ _ ?_
  clear hK K
  refine wpList_store_mid rfl 33 (.tmp 5) (.tmp 13) rfl x1.heap.size 0 #[.int .u64 (n0 : Nat), .int .u64 0, .int .u8 0, .string ⟨#[]⟩, .int .i64 0, .int .i64 0, .int .i64 0, .slice none 0 0, .slice none 0 0, .string ⟨#[]⟩, .int .i64 0, .int .i64 0, .int .i64 0, .slice none 0 0, .slice none 0 0, .string ⟨#[]⟩, .string ⟨#[]⟩, .int .i64 0, .string ⟨#[]⟩, .string ⟨#[]⟩, .int .u64 0] rfl rfl hth rfl (all_oneCell_toArray (cdC_one (cd0 n0 0 0) nilS nilS nilS nilS rfl rfl rfl rfl)) ?_
  clear hth
  refine wpList_nil ?_
  rw [show (#[.int .u64 (n0 : Nat), .int .u64 0, .int .u8 0, .string ⟨#[]⟩, .int .i64 0, .int .i64 0, .int .i64 0, .slice none 0 0, .slice none 0 0, .string ⟨#[]⟩, .int .i64 0, .int .i64 0, .int .i64 0, .slice none 0 0, .slice none 0 0, .string ⟨#[]⟩, .string ⟨#[]⟩, .int .i64 0, .string ⟨#[]⟩, .string ⟨#[]⟩, .int .u64 0] : Array Value).toList = [.int .u64 (n0 : Nat), .int .u64 0, .int .u8 0, .string ⟨#[]⟩, .int .i64 0, .int .i64 0, .int .i64 0, .slice none 0 0, .slice none 0 0, .string ⟨#[]⟩, .int .i64 0, .int .i64 0, .int .i64 0, .slice none 0 0, .slice none 0 0, .string ⟨#[]⟩, .string ⟨#[]⟩, .int .i64 0, .string ⟨#[]⟩, .string ⟨#[]⟩, .int .u64 0] from rfl]
  generalize (x1.alloc (.cells #[.int .u64 0, .int .u64 0, .int .u8 0, .string ⟨#[]⟩, .int .i64 0, .int .i64 0, .int .i64 0, .slice none 0 0, .slice none 0 0, .string ⟨#[]⟩, .int .i64 0, .int .i64 0, .int .i64 0, .slice none 0 0, .slice none 0 0, .string ⟨#[]⟩, .string ⟨#[]⟩, .int .i64 0, .string ⟨#[]⟩, .string ⟨#[]⟩, .int .u64 0] 33)).setCells x1.heap.size 0 [.int .u64 (n0 : Nat), .int .u64 0, .int .u8 0, .string ⟨#[]⟩, .int .i64 0, .int .i64 0, .int .i64 0, .slice none 0 0, .slice none 0 0, .string ⟨#[]⟩, .int .i64 0, .int .i64 0, .int .i64 0, .slice none 0 0, .slice none 0 0, .string ⟨#[]⟩, .string ⟨#[]⟩, .int .i64 0, .string ⟨#[]⟩, .string ⟨#[]⟩, .int .u64 0] = W1 at *
  generalize x1.heap.size = C at *
  generalize W0.heap.size = G at *
  go_wp2_with fail
  refine (K1.out _ _ HZ1.out.tk).mono ?_
  rintro e x2 ⟨rfl, h1, ho1⟩
  have HZ2 := Lib.hid (HZ1.out.go h1 ho1)
  have c1 : x2.cell? ⟨C, 1, none⟩ = some (.int .u64 0) := HZ2.out.bx.cell 1
  have f1 := HZ2.out.bx.fz 1
  have HZ3 := Lib.hid (HZ2.out.p 1 (.int .u64 (n1 : Nat)))
  clear h1 ho1 K1 HZ1
  go_wp2_with fail
  refine (K2.out _ _ HZ3.out.tk).mono ?_
  rintro e x3 ⟨rfl, h1, ho1⟩
  have HZ4 := Lib.hid (HZ3.out.go h1 ho1)
  clear h1 ho1 K2 HZ2 HZ3 c1 f1
  obtain ⟨c0, c1, g0, g1⟩ := HZ4.out.tk.cells
  subst hk hf
  have tk : IntKind.u8.wrap (3) = 3 := by rw [IntKind.wrap_u8]; omega
  have HSZ := Lib.hid (Dy.made [.int .u8 0, .string ⟨#[]⟩, .int .i64 0, .int .i64 0, .int .i64 0, .slice none 0 0, .slice none 0 0, .string ⟨#[]⟩, .int .i64 0, .int .i64 0, .int .i64 0, .slice none 0 0, .slice none 0 0, .string ⟨#[]⟩, .string ⟨#[]⟩, .int .i64 0, .string ⟨#[]⟩, .string ⟨#[]⟩, .int .u64 0] 31 HZ4.out)
  have HS0 := Lib.hid (HSZ.out.oall [.int .u8 (3), .string ⟨#[]⟩, .int .i64 0, .int .i64 0, .int .i64 0, .slice none 0 0, .slice none 0 0, .string ⟨#[]⟩, .int .i64 0, .int .i64 0, .int .i64 0, .slice none 0 0, .slice none 0 0, .string ⟨#[]⟩, .string ⟨#[]⟩, .int .i64 0, .string ⟨#[]⟩, .string ⟨#[]⟩, .int .u64 0] rfl)
  have hth := HSZ.out.ob.there 19 rfl
  clear HSZ
  go_upto_region 7 with fail
  refine wp_region_list ?_
  refine wpList_plain rfl fun K hK => ?_
  go_simp
  refine hK _ _ ?_
  clear hK K
  refine wpList_plain rfl fun K hK => ?_
  go_simp
  refine hK _ _ ?_
  clear hK K
  refine wpList_plain rfl fun K hK => ?_
  go_simp
  refine hK _ _ ?_
  clear hK K
  refine wpList_plain rfl fun K hK => ?_
  go_simp
  refine hK _ _ ?_
  clear hK K
  refine wpList_store_mid rfl 31 (.tmp 7) (.tmp 34) rfl x3.heap.size 0 #[.int .u8 (3), .string ⟨#[]⟩, .int .i64 0, .int .i64 0, .int .i64 0, .slice none 0 0, .slice none 0 0, .string ⟨#[]⟩, .int .i64 0, .int .i64 0, .int .i64 0, .slice none 0 0, .slice none 0 0, .string ⟨#[]⟩, .string ⟨#[]⟩, .int .i64 0, .string ⟨#[]⟩, .string ⟨#[]⟩, .int .u64 0] rfl rfl hth rfl (all_oneCell_toArray (orC_one (cd0 0 0 (3)) nilS nilS nilS nilS rfl rfl rfl rfl)) ?_
  clear hth
  refine wpList_nil ?_
  rw [show (#[.int .u8 (3), .string ⟨#[]⟩, .int .i64 0, .int .i64 0, .int .i64 0, .slice none 0 0, .slice none 0 0, .string ⟨#[]⟩, .int .i64 0, .int .i64 0, .int .i64 0, .slice none 0 0, .slice none 0 0, .string ⟨#[]⟩, .string ⟨#[]⟩, .int .i64 0, .string ⟨#[]⟩, .string ⟨#[]⟩, .int .u64 0] : Array Value).toList = [.int .u8 (3), .string ⟨#[]⟩, .int .i64 0, .int .i64 0, .int .i64 0, .slice none 0 0, .slice none 0 0, .string ⟨#[]⟩, .int .i64 0, .int .i64 0, .int .i64 0, .slice none 0 0, .slice none 0 0, .string ⟨#[]⟩, .string ⟨#[]⟩, .int .i64 0, .string ⟨#[]⟩, .string ⟨#[]⟩, .int .u64 0] from rfl]
  generalize (x3.alloc (.cells #[.int .u8 0, .string ⟨#[]⟩, .int .i64 0, .int .i64 0, .int .i64 0, .slice none 0 0, .slice none 0 0, .string ⟨#[]⟩, .int .i64 0, .int .i64 0, .int .i64 0, .slice none 0 0, .slice none 0 0, .string ⟨#[]⟩, .string ⟨#[]⟩, .int .i64 0, .string ⟨#[]⟩, .string ⟨#[]⟩, .int .u64 0] 31)).setCells x3.heap.size 0 [.int .u8 (3), .string ⟨#[]⟩, .int .i64 0, .int .i64 0, .int .i64 0, .slice none 0 0, .slice none 0 0, .string ⟨#[]⟩, .int .i64 0, .int .i64 0, .int .i64 0, .slice none 0 0, .slice none 0 0, .string ⟨#[]⟩, .string ⟨#[]⟩, .int .i64 0, .string ⟨#[]⟩, .string ⟨#[]⟩, .int .u64 0] = W3 at *
  generalize x3.heap.size = O at *
  clear c0 c1 g0 g1 HZ4
  have o0 : W3.cell? ⟨O, 0, none⟩ = some (.int .u8 3) := HS0.out.ob.cell 0
  go_wp2_with fail
  refine (KT.out _ _ HS0.out.z.tk).mono ?_
  rintro e x4 ⟨n, v2, v3, r, f, rfl, hv2, hv3, h1, ho1, hsp, ht⟩
  have hlt0 := HS0.out.ob.lt
  have HS1 := Lib.hid (HS0.out.go h1 ho1)
  have HV0 := Lib.hid (HD.out.task hsp)
  have HT0 := Lib.hid ht
  have hown := only_setCells O (btC n v2 v3) 7 x4
  have HO2 : Hid (OwnP (x4.setCells O 7 (btC n v2 v3)) (O + 1) v2 n.ws) := (hv2.less (by omega)).only hown ((hv2.less (b2 := O + 1) (by omega)).far (by omega))
  have HO3 : Hid (OwnP (x4.setCells O 7 (btC n v2 v3)) (O + 1) v3 n.bs) := (hv3.less (by omega)).only hown ((hv3.less (b2 := O + 1) (by omega)).far (by omega))
  obtain ⟨sa2, sc2, rfl⟩ := hv2.slice
  obtain ⟨sa3, sc3, rfl⟩ := hv3.slice
  have HS2 := Lib.hid (HS1.out.mid 7 (btC n (.slice sa2 n.ws.length sc2) (.slice sa3 n.bs.length sc3)) (by show _ ≤ 19; simp [btC]))
  have hth := HS1.out.ob.mthere 7 9 (by simp)
  clear h1 ho1 hsp ht hv2 hv3 hown hlt0 HD KT
  dsimp only
  refine ‹∀ (a : Act) (w : World), wpList Try.prog _ _ _ a w → _› _ _ ?_
  refine wpList_plain rfl fun K hK => ?_
  go_simp
  refine hK _ _ ?_
  clear hK K
  refine wpList_store_mid rfl 29 (.tmp 46) (.tmp 45) rfl O 7 (btC n (.slice sa2 n.ws.length sc2) (.slice sa3 n.bs.length sc3)).toArray rfl rfl hth rfl (all_oneCell_toArray (by simp [btC, Value.oneCell'])) ?_
  clear hth
  refine wpList_nil ?_
  rw [show (btC n (.slice sa2 n.ws.length sc2) (.slice sa3 n.bs.length sc3)).toArray.toList = (btC n (.slice sa2 n.ws.length sc2) (.slice sa3 n.bs.length sc3)) from rfl]
  generalize x4.setCells O 7 (btC n (.slice sa2 n.ws.length sc2) (.slice sa3 n.bs.length sc3)) = W4 at *
  have o1 : W4.cell? ⟨O, 0, none⟩ = some (.int .u8 3) := HS2.out.ob.cell 0
  go_wp2_with fail
  refine (named_no 3 (by simp) _).mono ?_
  rintro e x5 ⟨rfl, rfl⟩
  obtain ⟨v2, v3, v4, v5, HS, HRW⟩ : ∃ v2 v3 v4 v5, Hid (Dy w G C O r f [.int .u64 ((⟨n0, n1, 3, nd0, n, ⟨#[]⟩, ⟨#[]⟩, 0⟩ : Cd).cl : Nat), .int .u64 ((⟨n0, n1, 3, nd0, n, ⟨#[]⟩, ⟨#[]⟩, 0⟩ : Cd).sq : Nat), .int .u8 0, .string ⟨#[]⟩, .int .i64 0, .int .i64 0, .int .i64 0, .slice none 0 0, .slice none 0 0, .string ⟨#[]⟩, .int .i64 0, .int .i64 0, .int .i64 0, .slice none 0 0, .slice none 0 0, .string ⟨#[]⟩, .string ⟨#[]⟩, .int .i64 0, .string ⟨#[]⟩, .string ⟨#[]⟩, .int .u64 0] (orC ⟨n0, n1, 3, nd0, n, ⟨#[]⟩, ⟨#[]⟩, 0⟩ v2 v3 v4 v5) [.int .u64 0, .int .u64 0, .int .u8 0, .string ⟨#[]⟩, .int .i64 0, .int .i64 0, .int .i64 0, .slice none 0 0, .slice none 0 0, .string ⟨#[]⟩, .int .i64 0, .int .i64 0, .int .i64 0, .slice none 0 0, .slice none 0 0, .string ⟨#[]⟩, .string ⟨#[]⟩, .int .i64 0, .string ⟨#[]⟩, .string ⟨#[]⟩, .int .u64 0] (W4)) ∧ Hid (Rows (W4) (O + 1) ⟨n0, n1, 3, nd0, n, ⟨#[]⟩, ⟨#[]⟩, 0⟩ v2 v3 v4 v5) := ⟨nilS, nilS, _, _, HS2.out, ⟨OwnP.nil _ _, OwnP.nil _ _, HO2.out, HO3.out⟩⟩
  have HV : Hid (Vd l ⟨n0, n1, 3, nd0, n, ⟨#[]⟩, ⟨#[]⟩, 0⟩ r f) := HV0.out
  have HBN : Hid (Bnd ⟨n0, n1, 3, nd0, n, ⟨#[]⟩, ⟨#[]⟩, 0⟩) := ⟨HN0.out, HN1.out, by show 3 < 256; omega, by show 0 < 2 ^ 64; omega⟩
  have HTK : Hid (TookC ⟨n0, n1, 3, nd0, n, ⟨#[]⟩, ⟨#[]⟩, 0⟩ maxLen) := ⟨nil_took _, nil_took _, HT0.out.1, HT0.out.2.1⟩
  have HLN : Hid (Lens ⟨n0, n1, 3, nd0, n, ⟨#[]⟩, ⟨#[]⟩, 0⟩) := ⟨Nat.zero_le _, HT0.out.2.2.1, HT0.out.2.2.2.1, HT0.out.2.2.2.2, Nat.zero_le _, Nat.zero_le _⟩
  generalize (⟨n0, n1, 3, nd0, n, ⟨#[]⟩, ⟨#[]⟩, 0⟩ : Cd) = CC at *
  generalize W4 = X at *
  clear HS0 HS1 HS2 HO2 HO3 HV0 HT0 HN0 HN1 o0
  obtain ⟨s2, d2, rfl⟩ := HRW.out.1.slice
  obtain ⟨s3, d3, rfl⟩ := HRW.out.2.1.slice
  obtain ⟨s4, d4, rfl⟩ := HRW.out.2.2.1.slice
  obtain ⟨s5, d5, rfl⟩ := HRW.out.2.2.2.slice
  have hlo := HS.out.lo
  have hth := HS.out.z.bx.mthere 2 19 (by show 2 + 19 ≤ 21; omega)
  have hone := all_oneCell_toArray (orC_one CC (.slice s2 CC.nd.ls.length d2) (.slice s3 CC.nd.ts.length d3) (.slice s4 CC.td.ws.length d4) (.slice s5 CC.td.bs.length d5) rfl rfl rfl rfl)
  have HZ5 : Hid (Dz w G C r f (cdC CC (.slice s2 CC.nd.ls.length d2) (.slice s3 CC.nd.ts.length d3) (.slice s4 CC.td.ws.length d4) (.slice s5 CC.td.bs.length d5)) [.int .u64 0, .int .u64 0, .int .u8 0, .string ⟨#[]⟩, .int .i64 0, .int .i64 0, .int .i64 0, .slice none 0 0, .slice none 0 0, .string ⟨#[]⟩, .int .i64 0, .int .i64 0, .int .i64 0, .slice none 0 0, .slice none 0 0, .string ⟨#[]⟩, .string ⟨#[]⟩, .int .i64 0, .string ⟨#[]⟩, .string ⟨#[]⟩, .int .u64 0] (X.setCells C 2 (orC CC (.slice s2 CC.nd.ls.length d2) (.slice s3 CC.nd.ts.length d3) (.slice s4 CC.td.ws.length d4) (.slice s5 CC.td.bs.length d5)))) := HS.out.com 2 (orC CC (.slice s2 CC.nd.ls.length d2) (.slice s3 CC.nd.ts.length d3) (.slice s4 CC.td.ws.length d4) (.slice s5 CC.td.bs.length d5)) (by show 2 + 19 ≤ 21; omega)
  have HR5 := Lib.hid (HRW.out.off (only_setCells C (orC CC (.slice s2 CC.nd.ls.length d2) (.slice s3 CC.nd.ts.length d3) (.slice s4 CC.td.ws.length d4) (.slice s5 CC.td.bs.length d5)) 2 X) (by omega))
  go_upto_region 17 with fail
  refine wp_region_list ?_
  refine wpList_load_mid rfl 31 (.tmp 7) rfl O 0 rfl (orC CC (.slice s2 CC.nd.ls.length d2) (.slice s3 CC.nd.ts.length d3) (.slice s4 CC.td.ws.length d4) (.slice s5 CC.td.bs.length d5)) _ (HS.out.ob.range 0) Try.underlying31 rfl rfl ?_
  refine wpList_plain rfl fun K hK => ?_
  go_simp
  refine hK _ _ ?_
  clear hK K
  refine wpList_store_mid rfl 31 (.tmp 63) (.tmp 62) rfl C 2 (orC CC (.slice s2 CC.nd.ls.length d2) (.slice s3 CC.nd.ts.length d3) (.slice s4 CC.td.ws.length d4) (.slice s5 CC.td.bs.length d5)).toArray rfl rfl hth rfl hone ?_
  clear hth hone
  refine wpList_nil ?_
  rw [show (orC CC (.slice s2 CC.nd.ls.length d2) (.slice s3 CC.nd.ts.length d3) (.slice s4 CC.td.ws.length d4) (.slice s5 CC.td.bs.length d5)).toArray.toList = (orC CC (.slice s2 CC.nd.ls.length d2) (.slice s3 CC.nd.ts.length d3) (.slice s4 CC.td.ws.length d4) (.slice s5 CC.td.bs.length d5)) from rfl]
  generalize X.setCells C 2 (orC CC (.slice s2 CC.nd.ls.length d2) (.slice s3 CC.nd.ts.length d3) (.slice s4 CC.td.ws.length d4) (.slice s5 CC.td.bs.length d5)) = W5 at *
  clear HS HRW
  obtain ⟨c0, c1, g0, g1⟩ := HZ5.out.tk.cells
  cases f with
  | true =>
    have HNX := Lib.hid (HV.out.nof HML.out)
    go_upto_region 19 with fail
    refine wp_region_list ?_
    refine wpList_plain rfl fun K hK => ?_
    go_simp
    refine hK _ _ ?_
    clear hK K
    have hth := HZ5.out.rb.there 21 rfl
    have HE := Lib.hid (HZ5.out.all [.int .u64 0, .int .u64 0, .int .u8 0, .string ⟨#[]⟩, .int .i64 0, .int .i64 0, .int .i64 0, .slice none 0 0, .slice none 0 0, .string ⟨#[]⟩, .int .i64 0, .int .i64 0, .int .i64 0, .slice none 0 0, .slice none 0 0, .string ⟨#[]⟩, .string ⟨#[]⟩, .int .i64 0, .string ⟨#[]⟩, .string ⟨#[]⟩, .int .u64 0] rfl)
    refine wpList_store_mid rfl 33 (.tmp 2) (.tmp 80) rfl w.heap.size 0 #[.int .u64 0, .int .u64 0, .int .u8 0, .string ⟨#[]⟩, .int .i64 0, .int .i64 0, .int .i64 0, .slice none 0 0, .slice none 0 0, .string ⟨#[]⟩, .int .i64 0, .int .i64 0, .int .i64 0, .slice none 0 0, .slice none 0 0, .string ⟨#[]⟩, .string ⟨#[]⟩, .int .i64 0, .string ⟨#[]⟩, .string ⟨#[]⟩, .int .u64 0] rfl rfl hth rfl (all_oneCell_toArray (cdC_one (cd0 0 0 0) nilS nilS nilS nilS rfl rfl rfl rfl)) ?_
    clear hth
    go_wp2
    refine bodyPost_bx2 rfl w.heap.size [.int .u64 0, .int .u64 0, .int .u8 0, .string ⟨#[]⟩, .int .i64 0, .int .i64 0, .int .i64 0, .slice none 0 0, .slice none 0 0, .string ⟨#[]⟩, .int .i64 0, .int .i64 0, .int .i64 0, .slice none 0 0, .slice none 0 0, .string ⟨#[]⟩, .string ⟨#[]⟩, .int .i64 0, .string ⟨#[]⟩, .string ⟨#[]⟩, .int .u64 0] _ rfl rfl ?_ Try.underlying33 rfl rfl ?_
    case refine_1 => exact HE.out.1
    case refine_2 => exact ⟨HNO.out _ HNX.out, HE.out.2⟩
  | false =>
    by_cases hr : r = []
    · subst hr
      have e2 : (bs ([] : List UInt8)).toList = [] := (bs_nil _).2 rfl
      have HPR := Lib.hid (HR5.out.prs HTK.out)
      go_upto_region 18 with fail
      refine wp_region_list ?_
      refine wpList_plain rfl fun K hK => ?_
      go_simp
      refine hK _ _ ?_
      clear hK K
      refine wpList_plain rfl fun K hK => ?_
      go_simp
      refine hK _ _ ?_
      clear hK K
      refine wpList_plain rfl fun K hK => ?_
      go_simp
      refine hK _ _ ?_
      clear hK K
      refine wpList_plain rfl fun K hK => ?_
      go_simp
      refine hK _ _ ?_
      clear hK K
      refine wpList_plain rfl fun K hK => ?_
      go_simp
      refine hK _ _ ?_
      clear hK K
      refine BigFrame.wpList_want rfl fun K hK => ?_
      go_simp
      refine hK _ _ ?_
      clear hK K
      refine BigFrame.wpList_want rfl fun K hK => ?_
      go_simp
      refine hK _ _ ?_
      clear hK K
      refine BigFrame.wpList_want rfl fun K hK => ?_
      go_simp
      refine hK _ _ ?_
      clear hK K
      refine BigFrame.wpList_want rfl fun K hK => ?_
      go_simp
      refine hK _ _ ?_
      clear hK K
      refine BigFrame.wpList_want rfl fun K hK => ?_
      go_simp
      refine hK _ _ ?_
      clear hK K
      refine wpList_plain rfl fun K hK => ?_
      go_simp
      refine hK _ _ ?_
      clear hK K
      refine wpList_plain rfl fun K hK => ?_
      go_simp
      refine hK _ _ ?_
      clear hK K
      refine wl_load_want rfl 33 (.tmp 5) rfl C 0 rfl (cdC CC (.slice s2 CC.nd.ls.length d2) (.slice s3 CC.nd.ts.length d3) (.slice s4 CC.td.ws.length d4) (.slice s5 CC.td.bs.length d5)) _ (HZ5.out.bx.range 0) Try.underlying33 rfl rfl ?_
      have hc := fun z (hp : PrsIn z z.heap.size CC (.slice s2 CC.nd.ls.length d2) (.slice s3 CC.nd.ts.length d3) (.slice s4 CC.td.ws.length d4) (.slice s5 CC.td.bs.length d5)) => check_ref9 CC _ _ _ _ z hp HLN.out
      cases hk : ckB CC with
      | false =>
        rw [hk] at hc
        have HNX := Lib.hid (HV.out.noc HML.out hk)
        have HC := Lib.hid hc
        clear hc hk
        go_wp2_with fail
        refine (HC.out _ HPR.out).mono ?_
        rintro e x5 ⟨rfl, hb⟩
        have HZ6 := Lib.hid (HZ5.out.below hb)
        clear hb c0 c1 g0 g1
        go_upto_region 19 with fail
        refine wp_region_list ?_
        refine wpList_plain rfl fun K hK => ?_
        go_simp
        refine hK _ _ ?_
        clear hK K
        have hth := HZ6.out.rb.there 21 rfl
        have HE := Lib.hid (HZ6.out.all [.int .u64 0, .int .u64 0, .int .u8 0, .string ⟨#[]⟩, .int .i64 0, .int .i64 0, .int .i64 0, .slice none 0 0, .slice none 0 0, .string ⟨#[]⟩, .int .i64 0, .int .i64 0, .int .i64 0, .slice none 0 0, .slice none 0 0, .string ⟨#[]⟩, .string ⟨#[]⟩, .int .i64 0, .string ⟨#[]⟩, .string ⟨#[]⟩, .int .u64 0] rfl)
        refine wpList_store_mid rfl 33 (.tmp 2) (.tmp 80) rfl w.heap.size 0 #[.int .u64 0, .int .u64 0, .int .u8 0, .string ⟨#[]⟩, .int .i64 0, .int .i64 0, .int .i64 0, .slice none 0 0, .slice none 0 0, .string ⟨#[]⟩, .int .i64 0, .int .i64 0, .int .i64 0, .slice none 0 0, .slice none 0 0, .string ⟨#[]⟩, .string ⟨#[]⟩, .int .i64 0, .string ⟨#[]⟩, .string ⟨#[]⟩, .int .u64 0] rfl rfl hth rfl (all_oneCell_toArray (cdC_one (cd0 0 0 0) nilS nilS nilS nilS rfl rfl rfl rfl)) ?_
        clear hth
        go_wp2
        refine bodyPost_bx2 rfl w.heap.size [.int .u64 0, .int .u64 0, .int .u8 0, .string ⟨#[]⟩, .int .i64 0, .int .i64 0, .int .i64 0, .slice none 0 0, .slice none 0 0, .string ⟨#[]⟩, .int .i64 0, .int .i64 0, .int .i64 0, .slice none 0 0, .slice none 0 0, .string ⟨#[]⟩, .string ⟨#[]⟩, .int .i64 0, .string ⟨#[]⟩, .string ⟨#[]⟩, .int .u64 0] _ rfl rfl ?_ Try.underlying33 rfl rfl ?_
        case refine_1 => exact HE.out.1
        case refine_2 => exact ⟨HNO.out _ HNX.out, HE.out.2⟩
      | true =>
        rw [hk] at hc
        obtain ⟨y1, y2⟩ := HV.out.yes HBN.out hk
        have HY := Lib.hid (fun z v2 v3 v4 v5 hr => HYE.out y1 z v2 v3 v4 v5 hr)
        rw [y2] at HY
        have HC := Lib.hid hc
        clear hc hk y1 y2
        go_wp2_with fail
        refine (HC.out _ HPR.out).mono ?_
        rintro e x5 ⟨rfl, hb⟩
        have HZ6 := Lib.hid (HZ5.out.below hb)
        have HR6 := Lib.hid (HR5.out.below hb)
        clear hb c0 c1 g0 g1
        have hlg := HZ6.out.lg
        have hlc := HZ6.out.lc
        have hth := HZ6.out.rb.there 21 rfl
        have hone := all_oneCell_toArray (cdC_one CC (.slice s2 CC.nd.ls.length d2) (.slice s3 CC.nd.ts.length d3) (.slice s4 CC.td.ws.length d4) (.slice s5 CC.td.bs.length d5) rfl rfl rfl rfl)
        have HE := Lib.hid (HZ6.out.all (cdC CC (.slice s2 CC.nd.ls.length d2) (.slice s3 CC.nd.ts.length d3) (.slice s4 CC.td.ws.length d4) (.slice s5 CC.td.bs.length d5)) rfl)
        have HRE : Hid (Rows (x5.setCells w.heap.size 0 (cdC CC (.slice s2 CC.nd.ls.length d2) (.slice s3 CC.nd.ts.length d3) (.slice s4 CC.td.ws.length d4) (.slice s5 CC.td.bs.length d5))) w.heap.size CC (.slice s2 CC.nd.ls.length d2) (.slice s3 CC.nd.ts.length d3) (.slice s4 CC.td.ws.length d4) (.slice s5 CC.td.bs.length d5)) := (HR6.out.off (only_setCells _ _ _ _) (by omega)).less (by omega)
        go_upto_region 20 with fail
        refine wp_region_list ?_
        refine wpList_load_mid rfl 33 (.tmp 5) rfl C 0 rfl (cdC CC (.slice s2 CC.nd.ls.length d2) (.slice s3 CC.nd.ts.length d3) (.slice s4 CC.td.ws.length d4) (.slice s5 CC.td.bs.length d5)) _ (HZ6.out.bx.range 0) Try.underlying33 rfl rfl ?_
        refine wpList_store_mid rfl 33 (.tmp 2) (.tmp 81) rfl w.heap.size 0 (cdC CC (.slice s2 CC.nd.ls.length d2) (.slice s3 CC.nd.ts.length d3) (.slice s4 CC.td.ws.length d4) (.slice s5 CC.td.bs.length d5)).toArray rfl rfl hth rfl hone ?_
        clear hth hone
        rw [show (cdC CC (.slice s2 CC.nd.ls.length d2) (.slice s3 CC.nd.ts.length d3) (.slice s4 CC.td.ws.length d4) (.slice s5 CC.td.bs.length d5)).toArray.toList = (cdC CC (.slice s2 CC.nd.ls.length d2) (.slice s3 CC.nd.ts.length d3) (.slice s4 CC.td.ws.length d4) (.slice s5 CC.td.bs.length d5)) from rfl]
        generalize x5.setCells w.heap.size 0 (cdC CC (.slice s2 CC.nd.ls.length d2) (.slice s3 CC.nd.ts.length d3) (.slice s4 CC.td.ws.length d4) (.slice s5 CC.td.bs.length d5)) = W6 at *
        go_wp2
        refine bodyPost_bx2 rfl w.heap.size (cdC CC (.slice s2 CC.nd.ls.length d2) (.slice s3 CC.nd.ts.length d3) (.slice s4 CC.td.ws.length d4) (.slice s5 CC.td.bs.length d5)) _ rfl rfl ?_ Try.underlying33 rfl rfl ?_
        case refine_1 => exact HE.out.1
        case refine_2 => exact ⟨HY.out _ _ _ _ _ HRE.out, HE.out.2⟩
    · have HNX := Lib.hid (HV.out.nor HML.out hr)
      have m1 : ¬ (bs r).toList = [] := fun h => hr ((bs_nil _).1 h)
      have m2 : (bs r).toList.isEmpty = false := by
        rw [← Bool.not_eq_true, List.isEmpty_iff]
        exact m1
      clear hr
      go_upto_region 19 with fail
      refine wp_region_list ?_
      refine wpList_plain rfl fun K hK => ?_
      go_simp
      refine hK _ _ ?_
      clear hK K
      have hth := HZ5.out.rb.there 21 rfl
      have HE := Lib.hid (HZ5.out.all [.int .u64 0, .int .u64 0, .int .u8 0, .string ⟨#[]⟩, .int .i64 0, .int .i64 0, .int .i64 0, .slice none 0 0, .slice none 0 0, .string ⟨#[]⟩, .int .i64 0, .int .i64 0, .int .i64 0, .slice none 0 0, .slice none 0 0, .string ⟨#[]⟩, .string ⟨#[]⟩, .int .i64 0, .string ⟨#[]⟩, .string ⟨#[]⟩, .int .u64 0] rfl)
      refine wpList_store_mid rfl 33 (.tmp 2) (.tmp 80) rfl w.heap.size 0 #[.int .u64 0, .int .u64 0, .int .u8 0, .string ⟨#[]⟩, .int .i64 0, .int .i64 0, .int .i64 0, .slice none 0 0, .slice none 0 0, .string ⟨#[]⟩, .int .i64 0, .int .i64 0, .int .i64 0, .slice none 0 0, .slice none 0 0, .string ⟨#[]⟩, .string ⟨#[]⟩, .int .i64 0, .string ⟨#[]⟩, .string ⟨#[]⟩, .int .u64 0] rfl rfl hth rfl (all_oneCell_toArray (cdC_one (cd0 0 0 0) nilS nilS nilS nilS rfl rfl rfl rfl)) ?_
      clear hth
      go_wp2
      refine bodyPost_bx2 rfl w.heap.size [.int .u64 0, .int .u64 0, .int .u8 0, .string ⟨#[]⟩, .int .i64 0, .int .i64 0, .int .i64 0, .slice none 0 0, .slice none 0 0, .string ⟨#[]⟩, .int .i64 0, .int .i64 0, .int .i64 0, .slice none 0 0, .slice none 0 0, .string ⟨#[]⟩, .string ⟨#[]⟩, .int .i64 0, .string ⟨#[]⟩, .string ⟨#[]⟩, .int .u64 0] _ rfl rfl ?_ Try.underlying33 rfl rfl ?_
      case refine_1 => exact HE.out.1
      case refine_2 => exact ⟨HNO.out _ HNX.out, HE.out.2⟩
end Hd
end Go.Proofs.Ythlchdlgafincaa

/-
  gafferref09.Decode.
-/
namespace Go.Proofs.Ythlchdlgafincaa
open Go.RowKit
namespace Hd
open PM Hc
set_option maxRecDepth 100000 in
set_option maxHeartbeats 2000000 in
theorem dcd_bind (l : List UInt8) (w : World) (hl : l.length ≤ maxLen) (hk : tnN (tnR (tnR l)) = 5) (hf : (((false || decide (tnW l ≠ 0)) || decide (tnW (tnR l) ≠ 0)) || decide (tnW (tnR (tnR l)) ≠ 0)) = false) :
    Calls Try.prog 13 #[.string (bs l)] w fun e w' => DcIs l w.heap.size e w' ∧ Below w.heap.size w w' := by
  have HD0 : Hdr l (tnN l) (tnN (tnR l)) (tnN (tnR (tnR l))) (tnR (tnR (tnR l))) (((false || decide (tnW l ≠ 0)) || decide (tnW (tnR l) ≠ 0)) || decide (tnW (tnR (tnR l)) ≠ 0)) := ((sp_num l false).and (sp_num (tnR l) _)).and (sp_num (tnR (tnR l)) _)
  have K0 := Lib.hid (fun g z (hz : Tk z g l false) => bag_number g l false z hz hl)
  have K1 := Lib.hid (fun g z (hz : Tk z g (tnR l) (false || decide (tnW l ≠ 0))) => bag_number g (tnR l) _ z hz (Nat.le_trans (tnR_length l) hl))
  have K2 := Lib.hid (fun g z (hz : Tk z g (tnR (tnR l)) ((false || decide (tnW l ≠ 0)) || decide (tnW (tnR l) ≠ 0))) => bag_number g (tnR (tnR l)) _ z hz (Nat.le_trans (tnR_length _) (Nat.le_trans (tnR_length l) hl)))
  have HL3 := Lib.hid (Nat.le_trans (tnR_length (tnR (tnR l))) (Nat.le_trans (tnR_length (tnR l)) (tnR_length l)))
  have HN0 := Lib.hid (tnN_lt l)
  have HN1 := Lib.hid (tnN_lt (tnR l))
  have HML := Lib.hid hl
  have HNO := Lib.hid (fun z (h : dcOk l = false) => DcIs.no w.heap.size z h)
  have HYE := Lib.hid (fun (h : dcOk l = true) z v2 v3 v4 v5 hr => DcIs.yes (base := w.heap.size) (w' := z) (v2 := v2) (v3 := v3) (v4 := v4) (v5 := v5) h hr)
  have HBE : Hid (Below w.heap.size w (w.alloc (.cells #[.int .u64 0, .int .u64 0, .int .u8 0, .string ⟨#[]⟩, .int .i64 0, .int .i64 0, .int .i64 0, .slice none 0 0, .slice none 0 0, .string ⟨#[]⟩, .int .i64 0, .int .i64 0, .int .i64 0, .slice none 0 0, .slice none 0 0, .string ⟨#[]⟩, .string ⟨#[]⟩, .int .i64 0, .string ⟨#[]⟩, .string ⟨#[]⟩, .int .u64 0] 33))) := (Below.refl _ _).alloc (Nat.le_refl _) _
  have HRB : Hid (Bxn (w.alloc (.cells #[.int .u64 0, .int .u64 0, .int .u8 0, .string ⟨#[]⟩, .int .i64 0, .int .i64 0, .int .i64 0, .slice none 0 0, .slice none 0 0, .string ⟨#[]⟩, .int .i64 0, .int .i64 0, .int .i64 0, .slice none 0 0, .slice none 0 0, .string ⟨#[]⟩, .string ⟨#[]⟩, .int .i64 0, .string ⟨#[]⟩, .string ⟨#[]⟩, .int .u64 0] 33)) w.heap.size [.int .u64 0, .int .u64 0, .int .u8 0, .string ⟨#[]⟩, .int .i64 0, .int .i64 0, .int .i64 0, .slice none 0 0, .slice none 0 0, .string ⟨#[]⟩, .int .i64 0, .int .i64 0, .int .i64 0, .slice none 0 0, .slice none 0 0, .string ⟨#[]⟩, .string ⟨#[]⟩, .int .i64 0, .string ⟨#[]⟩, .string ⟨#[]⟩, .int .u64 0]) := Bxn.made w _ _
  have KX := Lib.hid (fun g c r z (hz : Tk z g r c) (hr : r.length ≤ l.length) => bag_textS g r c z hz (Nat.le_trans hr hl))
  have KM := Lib.hid (fun g c r z (hz : Tk z g r c) (hr : r.length ≤ l.length) => bag_number g r c z hz (Nat.le_trans hr hl))
  generalize tnR (tnR (tnR l)) = r3 at *
  generalize tnN (tnR (tnR l)) = n2 at *
  generalize tnN (tnR l) = n1 at *
  generalize tnN l = n0 at *
  generalize (((false || decide (tnW l ≠ 0)) || decide (tnW (tnR l) ≠ 0)) || decide (tnW (tnR (tnR l)) ≠ 0)) = b2 at *
  have HD := Lib.hid HD0
  clear HD0 hl
  go_enter Try.func13, Try.ntmps13
  go_upto_region 1 with fail
  generalize w.alloc (.cells #[.int .u64 0, .int .u64 0, .int .u8 0, .string ⟨#[]⟩, .int .i64 0, .int .i64 0, .int .i64 0, .slice none 0 0, .slice none 0 0, .string ⟨#[]⟩, .int .i64 0, .int .i64 0, .int .i64 0, .slice none 0 0, .slice none 0 0, .string ⟨#[]⟩, .string ⟨#[]⟩, .int .i64 0, .string ⟨#[]⟩, .string ⟨#[]⟩, .int .u64 0] 33) = W0 at *
  go_wp2_with fail
  refine (K0.out _ _ (Tk.made _ W0 l false)).mono ?_
  rintro e x1 ⟨rfl, h1, ho1⟩
  have HZ0 := Lib.hid (Dz.made [.int .u64 0, .int .u64 0, .int .u8 0, .string ⟨#[]⟩, .int .i64 0, .int .i64 0, .int .i64 0, .slice none 0 0, .slice none 0 0, .string ⟨#[]⟩, .int .i64 0, .int .i64 0, .int .i64 0, .slice none 0 0, .slice none 0 0, .string ⟨#[]⟩, .string ⟨#[]⟩, .int .i64 0, .string ⟨#[]⟩, .string ⟨#[]⟩, .int .u64 0] [.int .u64 0, .int .u64 0, .int .u8 0, .string ⟨#[]⟩, .int .i64 0, .int .i64 0, .int .i64 0, .slice none 0 0, .slice none 0 0, .string ⟨#[]⟩, .int .i64 0, .int .i64 0, .int .i64 0, .slice none 0 0, .slice none 0 0, .string ⟨#[]⟩, .string ⟨#[]⟩, .int .i64 0, .string ⟨#[]⟩, .string ⟨#[]⟩, .int .u64 0] 76 33 HRB.out HBE.out h1 ho1)
  have HZ1 := Lib.hid (HZ0.out.call [.int .u64 (n0 : Nat), .int .u64 0, .int .u8 0, .string ⟨#[]⟩, .int .i64 0, .int .i64 0, .int .i64 0, .slice none 0 0, .slice none 0 0, .string ⟨#[]⟩, .int .i64 0, .int .i64 0, .int .i64 0, .slice none 0 0, .slice none 0 0, .string ⟨#[]⟩, .string ⟨#[]⟩, .int .i64 0, .string ⟨#[]⟩, .string ⟨#[]⟩, .int .u64 0] rfl)
  have hth := HZ0.out.bx.there 21 rfl
  clear h1 ho1 HBE HRB K0 HZ0
  dsimp only
  refine ‹∀ (a : Act) (w : World), wpList Try.prog _ _ _ a w → _› _ _ ?_
  refine wpList_plain rfl fun K hK => ?_
  go_simp
  refine hK _ _ ?_
  clear hK K
  refine wpList_plain rfl fun K hK => ?_
  go_simp
  refine hK _ _ ?_
  clear hK K
  refine wpList_store_mid rfl 33 (.tmp 5) (.tmp 13) rfl x1.heap.size 0 #[.int .u64 (n0 : Nat), .int .u64 0, .int .u8 0, .string ⟨#[]⟩, .int .i64 0, .int .i64 0, .int .i64 0, .slice none 0 0, .slice none 0 0, .string ⟨#[]⟩, .int .i64 0, .int .i64 0, .int .i64 0, .slice none 0 0, .slice none 0 0, .string ⟨#[]⟩, .string ⟨#[]⟩, .int .i64 0, .string ⟨#[]⟩, .string ⟨#[]⟩, .int .u64 0] rfl rfl hth rfl (all_oneCell_toArray (cdC_one (cd0 n0 0 0) nilS nilS nilS nilS rfl rfl rfl rfl)) ?_
  clear hth
  refine wpList_nil ?_
  rw [show (#[.int .u64 (n0 : Nat), .int .u64 0, .int .u8 0, .string ⟨#[]⟩, .int .i64 0, .int .i64 0, .int .i64 0, .slice none 0 0, .slice none 0 0, .string ⟨#[]⟩, .int .i64 0, .int .i64 0, .int .i64 0, .slice none 0 0, .slice none 0 0, .string ⟨#[]⟩, .string ⟨#[]⟩, .int .i64 0, .string ⟨#[]⟩, .string ⟨#[]⟩, .int .u64 0] : Array Value).toList = [.int .u64 (n0 : Nat), .int .u64 0, .int .u8 0, .string ⟨#[]⟩, .int .i64 0, .int .i64 0, .int .i64 0, .slice none 0 0, .slice none 0 0, .string ⟨#[]⟩, .int .i64 0, .int .i64 0, .int .i64 0, .slice none 0 0, .slice none 0 0, .string ⟨#[]⟩, .string ⟨#[]⟩, .int .i64 0, .string ⟨#[]⟩, .string ⟨#[]⟩, .int .u64 0] from rfl]
  generalize (x1.alloc (.cells #[.int .u64 0, .int .u64 0, .int .u8 0, .string ⟨#[]⟩, .int .i64 0, .int .i64 0, .int .i64 0, .slice none 0 0, .slice none 0 0, .string ⟨#[]⟩, .int .i64 0, .int .i64 0, .int .i64 0, .slice none 0 0, .slice none 0 0, .string ⟨#[]⟩, .string ⟨#[]⟩, .int .i64 0, .string ⟨#[]⟩, .string ⟨#[]⟩, .int .u64 0] 33)).setCells x1.heap.size 0 [.int .u64 (n0 : Nat), .int .u64 0, .int .u8 0, .string ⟨#[]⟩, .int .i64 0, .int .i64 0, .int .i64 0, .slice none 0 0, .slice none 0 0, .string ⟨#[]⟩, .int .i64 0, .int .i64 0, .int .i64 0, .slice none 0 0, .slice none 0 0, .string ⟨#[]⟩, .string ⟨#[]⟩, .int .i64 0, .string ⟨#[]⟩, .string ⟨#[]⟩, .int .u64 0] = W1 at *
  generalize x1.heap.size = C at *
  generalize W0.heap.size = G at *
  go_wp2_with fail
  refine (K1.out _ _ HZ1.out.tk).mono ?_
  rintro e x2 ⟨rfl, h1, ho1⟩
  have HZ2 := Lib.hid (HZ1.out.go h1 ho1)
  have c1 : x2.cell? ⟨C, 1, none⟩ = some (.int .u64 0) := HZ2.out.bx.cell 1
  have f1 := HZ2.out.bx.fz 1
  have HZ3 := Lib.hid (HZ2.out.p 1 (.int .u64 (n1 : Nat)))
  clear h1 ho1 K1 HZ1
  go_wp2_with fail
  refine (K2.out _ _ HZ3.out.tk).mono ?_
  rintro e x3 ⟨rfl, h1, ho1⟩
  have HZ4 := Lib.hid (HZ3.out.go h1 ho1)
  clear h1 ho1 K2 HZ2 HZ3 c1 f1
  obtain ⟨c0, c1, g0, g1⟩ := HZ4.out.tk.cells
  subst hk hf
  have tk : IntKind.u8.wrap (5) = 5 := by rw [IntKind.wrap_u8]; omega
  have HSZ := Lib.hid (Dy.made [.int .u8 0, .string ⟨#[]⟩, .int .i64 0, .int .i64 0, .int .i64 0, .slice none 0 0, .slice none 0 0, .string ⟨#[]⟩, .int .i64 0, .int .i64 0, .int .i64 0, .slice none 0 0, .slice none 0 0, .string ⟨#[]⟩, .string ⟨#[]⟩, .int .i64 0, .string ⟨#[]⟩, .string ⟨#[]⟩, .int .u64 0] 31 HZ4.out)
  have HS0 := Lib.hid (HSZ.out.oall [.int .u8 (5), .string ⟨#[]⟩, .int .i64 0, .int .i64 0, .int .i64 0, .slice none 0 0, .slice none 0 0, .string ⟨#[]⟩, .int .i64 0, .int .i64 0, .int .i64 0, .slice none 0 0, .slice none 0 0, .string ⟨#[]⟩, .string ⟨#[]⟩, .int .i64 0, .string ⟨#[]⟩, .string ⟨#[]⟩, .int .u64 0] rfl)
  have hth := HSZ.out.ob.there 19 rfl
  clear HSZ
  go_upto_region 7 with fail
  refine wp_region_list ?_
  refine wpList_plain rfl fun K hK => ?_
  go_simp
  refine hK _ _ ?_
  clear hK K
  refine wpList_plain rfl fun K hK => ?_
  go_simp
  refine hK _ _ ?_
  clear hK K
  refine wpList_plain rfl fun K hK => ?_
  go_simp
  refine hK _ _ ?_
  clear hK K
  refine wpList_plain rfl fun K hK => ?_
  go_simp
  refine hK _ _ ?_
  clear hK K
  refine wpList_store_mid rfl 31 (.tmp 7) (.tmp 34) rfl x3.heap.size 0 #[.int .u8 (5), .string ⟨#[]⟩, .int .i64 0, .int .i64 0, .int .i64 0, .slice none 0 0, .slice none 0 0, .string ⟨#[]⟩, .int .i64 0, .int .i64 0, .int .i64 0, .slice none 0 0, .slice none 0 0, .string ⟨#[]⟩, .string ⟨#[]⟩, .int .i64 0, .string ⟨#[]⟩, .string ⟨#[]⟩, .int .u64 0] rfl rfl hth rfl (all_oneCell_toArray (orC_one (cd0 0 0 (5)) nilS nilS nilS nilS rfl rfl rfl rfl)) ?_
  clear hth
  refine wpList_nil ?_
  rw [show (#[.int .u8 (5), .string ⟨#[]⟩, .int .i64 0, .int .i64 0, .int .i64 0, .slice none 0 0, .slice none 0 0, .string ⟨#[]⟩, .int .i64 0, .int .i64 0, .int .i64 0, .slice none 0 0, .slice none 0 0, .string ⟨#[]⟩, .string ⟨#[]⟩, .int .i64 0, .string ⟨#[]⟩, .string ⟨#[]⟩, .int .u64 0] : Array Value).toList = [.int .u8 (5), .string ⟨#[]⟩, .int .i64 0, .int .i64 0, .int .i64 0, .slice none 0 0, .slice none 0 0, .string ⟨#[]⟩, .int .i64 0, .int .i64 0, .int .i64 0, .slice none 0 0, .slice none 0 0, .string ⟨#[]⟩, .string ⟨#[]⟩, .int .i64 0, .string ⟨#[]⟩, .string ⟨#[]⟩, .int .u64 0] from rfl]
  generalize (x3.alloc (.cells #[.int .u8 0, .string ⟨#[]⟩, .int .i64 0, .int .i64 0, .int .i64 0, .slice none 0 0, .slice none 0 0, .string ⟨#[]⟩, .int .i64 0, .int .i64 0, .int .i64 0, .slice none 0 0, .slice none 0 0, .string ⟨#[]⟩, .string ⟨#[]⟩, .int .i64 0, .string ⟨#[]⟩, .string ⟨#[]⟩, .int .u64 0] 31)).setCells x3.heap.size 0 [.int .u8 (5), .string ⟨#[]⟩, .int .i64 0, .int .i64 0, .int .i64 0, .slice none 0 0, .slice none 0 0, .string ⟨#[]⟩, .int .i64 0, .int .i64 0, .int .i64 0, .slice none 0 0, .slice none 0 0, .string ⟨#[]⟩, .string ⟨#[]⟩, .int .i64 0, .string ⟨#[]⟩, .string ⟨#[]⟩, .int .u64 0] = W3 at *
  generalize x3.heap.size = O at *
  clear c0 c1 g0 g1 HZ4
  have o0 : W3.cell? ⟨O, 0, none⟩ = some (.int .u8 5) := HS0.out.ob.cell 0
  go_wp2_with fail
  refine (named_yes 5 (by decide) (by decide) _).mono ?_
  rintro e x9 ⟨rfl, rfl⟩
  go_wp2_with fail
  refine (KX.out _ _ _ _ HS0.out.z.tk HL3.out).mono ?_
  rintro e x4 ⟨q, r4, f4, rfl, hq, hsp4, h1, ho1⟩
  have HL4 := Lib.hid (Nat.le_trans hsp4.len HL3.out)
  have HS1 := Lib.hid (HS0.out.go h1 ho1)
  have HP4 := Lib.hid hsp4
  have HQ4 := Lib.hid hq
  clear h1 ho1 o0 hsp4 hq
  have o0 : x4.cell? ⟨O, 0, none⟩ = some (.int .u8 5) := HS1.out.ob.cell 0
  have o16 : x4.cell? ⟨O, 16, none⟩ = some (.string ⟨#[]⟩) := HS1.out.ob.cell 16
  have z16 := HS1.out.ob.fz 16
  have HS2 := Lib.hid (HS1.out.p 16 (.string q))
  go_wp2_with fail
  refine (KX.out _ _ _ _ HS2.out.z.tk HL4.out).mono ?_
  rintro e x5 ⟨s, r5, f5, rfl, hq, hsp5, h1, ho1⟩
  have HL5 := Lib.hid (Nat.le_trans hsp5.len HL4.out)
  have HS3 := Lib.hid (HS2.out.go h1 ho1)
  have HP5 := Lib.hid hsp5
  have HQ5 := Lib.hid hq
  clear h1 ho1 o0 o16 z16 hsp5 hq
  have o17 : x5.cell? ⟨O, 17, none⟩ = some (.string ⟨#[]⟩) := HS3.out.ob.cell 17
  have z17 := HS3.out.ob.fz 17
  have HS4 := Lib.hid (HS3.out.p 17 (.string s))
  have HP6 : Hid (Sp r5 f5 num (fun n => n < 2 ^ 64) (tnN r5) (tnR r5) (f5 || decide (tnW r5 ≠ 0))) := sp_num r5 f5
  have HFE := Lib.hid (tnN_lt r5)
  have KM5 := Lib.hid (KM.out G f5 r5 _ HS4.out.z.tk HL5.out)
  clear KM KX
  generalize tnR r5 = r at *
  generalize (f5 || decide (tnW r5 ≠ 0)) = f at *
  generalize tnN r5 = fe at *
  go_wp2_with fail
  refine KM5.out.mono ?_
  rintro e x6 ⟨rfl, h1, ho1⟩
  have HS5 := Lib.hid (HS4.out.go h1 ho1)
  clear h1 ho1 o17 z17 KM5
  have o18 : x6.cell? ⟨O, 18, none⟩ = some (.int .u64 0) := HS5.out.ob.cell 18
  have z18 := HS5.out.ob.fz 18
  have HS6 := Lib.hid (HS5.out.p 18 (.int .u64 (fe : Nat)))
  have HV0 := Lib.hid (HD.out.bind HP4.out HP5.out HP6.out)
  go_upto_region 17 with fail
  clear o18 z18 HS0 HS1 HS2 HS3 HS4 HS5
  obtain ⟨v2, v3, v4, v5, HS, HRW⟩ : ∃ v2 v3 v4 v5, Hid (Dy w G C O r f [.int .u64 ((⟨n0, n1, 5, nd0, td0, q, s, fe⟩ : Cd).cl : Nat), .int .u64 ((⟨n0, n1, 5, nd0, td0, q, s, fe⟩ : Cd).sq : Nat), .int .u8 0, .string ⟨#[]⟩, .int .i64 0, .int .i64 0, .int .i64 0, .slice none 0 0, .slice none 0 0, .string ⟨#[]⟩, .int .i64 0, .int .i64 0, .int .i64 0, .slice none 0 0, .slice none 0 0, .string ⟨#[]⟩, .string ⟨#[]⟩, .int .i64 0, .string ⟨#[]⟩, .string ⟨#[]⟩, .int .u64 0] (orC ⟨n0, n1, 5, nd0, td0, q, s, fe⟩ v2 v3 v4 v5) [.int .u64 0, .int .u64 0, .int .u8 0, .string ⟨#[]⟩, .int .i64 0, .int .i64 0, .int .i64 0, .slice none 0 0, .slice none 0 0, .string ⟨#[]⟩, .int .i64 0, .int .i64 0, .int .i64 0, .slice none 0 0, .slice none 0 0, .string ⟨#[]⟩, .string ⟨#[]⟩, .int .i64 0, .string ⟨#[]⟩, .string ⟨#[]⟩, .int .u64 0] (x6.setCell ⟨O, 18, none⟩ (.int .u64 (fe : Nat)))) ∧ Hid (Rows (x6.setCell ⟨O, 18, none⟩ (.int .u64 (fe : Nat))) (O + 1) ⟨n0, n1, 5, nd0, td0, q, s, fe⟩ v2 v3 v4 v5) := ⟨nilS, nilS, nilS, nilS, HS6.out, ⟨OwnP.nil _ _, OwnP.nil _ _, OwnP.nil _ _, OwnP.nil _ _⟩⟩
  have HV : Hid (Vd l ⟨n0, n1, 5, nd0, td0, q, s, fe⟩ r f) := HV0.out
  have HBN : Hid (Bnd ⟨n0, n1, 5, nd0, td0, q, s, fe⟩) := ⟨HN0.out, HN1.out, by show 5 < 256; omega, HFE.out⟩
  have HTK : Hid (TookC ⟨n0, n1, 5, nd0, td0, q, s, fe⟩ maxLen) := ⟨nil_took _, nil_took _, nil_took _, nil_took _⟩
  have HLN : Hid (Lens ⟨n0, n1, 5, nd0, td0, q, s, fe⟩) := ⟨Nat.zero_le _, Nat.zero_le _, Nat.zero_le _, Nat.zero_le _, HQ4.out, HQ5.out⟩
  generalize (⟨n0, n1, 5, nd0, td0, q, s, fe⟩ : Cd) = CC at *
  generalize x6.setCell ⟨O, 18, none⟩ (.int .u64 (fe : Nat)) = X at *
  clear HS6 HV0 HP4 HP5 HP6 HQ4 HQ5 HD HN0 HN1 HFE HL3 HL4 HL5
  obtain ⟨s2, d2, rfl⟩ := HRW.out.1.slice
  obtain ⟨s3, d3, rfl⟩ := HRW.out.2.1.slice
  obtain ⟨s4, d4, rfl⟩ := HRW.out.2.2.1.slice
  obtain ⟨s5, d5, rfl⟩ := HRW.out.2.2.2.slice
  have hlo := HS.out.lo
  have hth := HS.out.z.bx.mthere 2 19 (by show 2 + 19 ≤ 21; omega)
  have hone := all_oneCell_toArray (orC_one CC (.slice s2 CC.nd.ls.length d2) (.slice s3 CC.nd.ts.length d3) (.slice s4 CC.td.ws.length d4) (.slice s5 CC.td.bs.length d5) rfl rfl rfl rfl)
  have HZ5 : Hid (Dz w G C r f (cdC CC (.slice s2 CC.nd.ls.length d2) (.slice s3 CC.nd.ts.length d3) (.slice s4 CC.td.ws.length d4) (.slice s5 CC.td.bs.length d5)) [.int .u64 0, .int .u64 0, .int .u8 0, .string ⟨#[]⟩, .int .i64 0, .int .i64 0, .int .i64 0, .slice none 0 0, .slice none 0 0, .string ⟨#[]⟩, .int .i64 0, .int .i64 0, .int .i64 0, .slice none 0 0, .slice none 0 0, .string ⟨#[]⟩, .string ⟨#[]⟩, .int .i64 0, .string ⟨#[]⟩, .string ⟨#[]⟩, .int .u64 0] (X.setCells C 2 (orC CC (.slice s2 CC.nd.ls.length d2) (.slice s3 CC.nd.ts.length d3) (.slice s4 CC.td.ws.length d4) (.slice s5 CC.td.bs.length d5)))) := HS.out.com 2 (orC CC (.slice s2 CC.nd.ls.length d2) (.slice s3 CC.nd.ts.length d3) (.slice s4 CC.td.ws.length d4) (.slice s5 CC.td.bs.length d5)) (by show 2 + 19 ≤ 21; omega)
  have HR5 := Lib.hid (HRW.out.off (only_setCells C (orC CC (.slice s2 CC.nd.ls.length d2) (.slice s3 CC.nd.ts.length d3) (.slice s4 CC.td.ws.length d4) (.slice s5 CC.td.bs.length d5)) 2 X) (by omega))
  refine wp_region_list ?_
  refine wpList_load_mid rfl 31 (.tmp 7) rfl O 0 rfl (orC CC (.slice s2 CC.nd.ls.length d2) (.slice s3 CC.nd.ts.length d3) (.slice s4 CC.td.ws.length d4) (.slice s5 CC.td.bs.length d5)) _ (HS.out.ob.range 0) Try.underlying31 rfl rfl ?_
  refine wpList_plain rfl fun K hK => ?_
  go_simp
  refine hK _ _ ?_
  clear hK K
  refine wpList_store_mid rfl 31 (.tmp 63) (.tmp 62) rfl C 2 (orC CC (.slice s2 CC.nd.ls.length d2) (.slice s3 CC.nd.ts.length d3) (.slice s4 CC.td.ws.length d4) (.slice s5 CC.td.bs.length d5)).toArray rfl rfl hth rfl hone ?_
  clear hth hone
  refine wpList_nil ?_
  rw [show (orC CC (.slice s2 CC.nd.ls.length d2) (.slice s3 CC.nd.ts.length d3) (.slice s4 CC.td.ws.length d4) (.slice s5 CC.td.bs.length d5)).toArray.toList = (orC CC (.slice s2 CC.nd.ls.length d2) (.slice s3 CC.nd.ts.length d3) (.slice s4 CC.td.ws.length d4) (.slice s5 CC.td.bs.length d5)) from rfl]
  generalize X.setCells C 2 (orC CC (.slice s2 CC.nd.ls.length d2) (.slice s3 CC.nd.ts.length d3) (.slice s4 CC.td.ws.length d4) (.slice s5 CC.td.bs.length d5)) = W5 at *
  clear HS HRW
  obtain ⟨c0, c1, g0, g1⟩ := HZ5.out.tk.cells
  cases f with
  | true =>
    have HNX := Lib.hid (HV.out.nof HML.out)
    go_upto_region 19 with fail
    refine wp_region_list ?_
    refine wpList_plain rfl fun K hK => ?_
    go_simp
    refine hK _ _ ?_
    clear hK K
    have hth := HZ5.out.rb.there 21 rfl
    have HE := Lib.hid (HZ5.out.all [.int .u64 0, .int .u64 0, .int .u8 0, .string ⟨#[]⟩, .int .i64 0, .int .i64 0, .int .i64 0, .slice none 0 0, .slice none 0 0, .string ⟨#[]⟩, .int .i64 0, .int .i64 0, .int .i64 0, .slice none 0 0, .slice none 0 0, .string ⟨#[]⟩, .string ⟨#[]⟩, .int .i64 0, .string ⟨#[]⟩, .string ⟨#[]⟩, .int .u64 0] rfl)
    refine wpList_store_mid rfl 33 (.tmp 2) (.tmp 80) rfl w.heap.size 0 #[.int .u64 0, .int .u64 0, .int .u8 0, .string ⟨#[]⟩, .int .i64 0, .int .i64 0, .int .i64 0, .slice none 0 0, .slice none 0 0, .string ⟨#[]⟩, .int .i64 0, .int .i64 0, .int .i64 0, .slice none 0 0, .slice none 0 0, .string ⟨#[]⟩, .string ⟨#[]⟩, .int .i64 0, .string ⟨#[]⟩, .string ⟨#[]⟩, .int .u64 0] rfl rfl hth rfl (all_oneCell_toArray (cdC_one (cd0 0 0 0) nilS nilS nilS nilS rfl rfl rfl rfl)) ?_
    clear hth
    go_wp2
    refine bodyPost_bx2 rfl w.heap.size [.int .u64 0, .int .u64 0, .int .u8 0, .string ⟨#[]⟩, .int .i64 0, .int .i64 0, .int .i64 0, .slice none 0 0, .slice none 0 0, .string ⟨#[]⟩, .int .i64 0, .int .i64 0, .int .i64 0, .slice none 0 0, .slice none 0 0, .string ⟨#[]⟩, .string ⟨#[]⟩, .int .i64 0, .string ⟨#[]⟩, .string ⟨#[]⟩, .int .u64 0] _ rfl rfl ?_ Try.underlying33 rfl rfl ?_
    case refine_1 => exact HE.out.1
    case refine_2 => exact ⟨HNO.out _ HNX.out, HE.out.2⟩
  | false =>
    by_cases hr : r = []
    · subst hr
      have e2 : (bs ([] : List UInt8)).toList = [] := (bs_nil _).2 rfl
      have HPR := Lib.hid (HR5.out.prs HTK.out)
      go_upto_region 18 with fail
      refine wp_region_list ?_
      refine wpList_plain rfl fun K hK => ?_
      go_simp
      refine hK _ _ ?_
      clear hK K
      refine wpList_plain rfl fun K hK => ?_
      go_simp
      refine hK _ _ ?_
      clear hK K
      refine wpList_plain rfl fun K hK => ?_
      go_simp
      refine hK _ _ ?_
      clear hK K
      refine wpList_plain rfl fun K hK => ?_
      go_simp
      refine hK _ _ ?_
      clear hK K
      refine wpList_plain rfl fun K hK => ?_
      go_simp
      refine hK _ _ ?_
      clear hK K
      refine BigFrame.wpList_want rfl fun K hK => ?_
      go_simp
      refine hK _ _ ?_
      clear hK K
      refine BigFrame.wpList_want rfl fun K hK => ?_
      go_simp
      refine hK _ _ ?_
      clear hK K
      refine BigFrame.wpList_want rfl fun K hK => ?_
      go_simp
      refine hK _ _ ?_
      clear hK K
      refine BigFrame.wpList_want rfl fun K hK => ?_
      go_simp
      refine hK _ _ ?_
      clear hK K
      refine BigFrame.wpList_want rfl fun K hK => ?_
      go_simp
      refine hK _ _ ?_
      clear hK K
      refine wpList_plain rfl fun K hK => ?_
      go_simp
      refine hK _ _ ?_
      clear hK K
      refine wpList_plain rfl fun K hK => ?_
      go_simp
      refine hK _ _ ?_
      clear hK K
      refine wl_load_want rfl 33 (.tmp 5) rfl C 0 rfl (cdC CC (.slice s2 CC.nd.ls.length d2) (.slice s3 CC.nd.ts.length d3) (.slice s4 CC.td.ws.length d4) (.slice s5 CC.td.bs.length d5)) _ (HZ5.out.bx.range 0) Try.underlying33 rfl rfl ?_
      have hc := fun z (hp : PrsIn z z.heap.size CC (.slice s2 CC.nd.ls.length d2) (.slice s3 CC.nd.ts.length d3) (.slice s4 CC.td.ws.length d4) (.slice s5 CC.td.bs.length d5)) => check_ref9 CC _ _ _ _ z hp HLN.out
      cases hk : ckB CC with
      | false =>
        rw [hk] at hc
        have HNX := Lib.hid (HV.out.noc HML.out hk)
        have HC := Lib.hid hc
        clear hc hk
        go_wp2_with fail
        refine (HC.out _ HPR.out).mono ?_
        rintro e x5 ⟨rfl, hb⟩
        have HZ6 := Lib.hid (HZ5.out.below hb)
        clear hb c0 c1 g0 g1
        go_upto_region 19 with fail
        refine wp_region_list ?_
        refine wpList_plain rfl fun K hK => ?_
        go_simp
        refine hK _ _ ?_
        clear hK K
        have hth := HZ6.out.rb.there 21 rfl
        have HE := Lib.hid (HZ6.out.all [.int .u64 0, .int .u64 0, .int .u8 0, .string ⟨#[]⟩, .int .i64 0, .int .i64 0, .int .i64 0, .slice none 0 0, .slice none 0 0, .string ⟨#[]⟩, .int .i64 0, .int .i64 0, .int .i64 0, .slice none 0 0, .slice none 0 0, .string ⟨#[]⟩, .string ⟨#[]⟩, .int .i64 0, .string ⟨#[]⟩, .string ⟨#[]⟩, .int .u64 0] rfl)
        refine wpList_store_mid rfl 33 (.tmp 2) (.tmp 80) rfl w.heap.size 0 #[.int .u64 0, .int .u64 0, .int .u8 0, .string ⟨#[]⟩, .int .i64 0, .int .i64 0, .int .i64 0, .slice none 0 0, .slice none 0 0, .string ⟨#[]⟩, .int .i64 0, .int .i64 0, .int .i64 0, .slice none 0 0, .slice none 0 0, .string ⟨#[]⟩, .string ⟨#[]⟩, .int .i64 0, .string ⟨#[]⟩, .string ⟨#[]⟩, .int .u64 0] rfl rfl hth rfl (all_oneCell_toArray (cdC_one (cd0 0 0 0) nilS nilS nilS nilS rfl rfl rfl rfl)) ?_
        clear hth
        go_wp2
        refine bodyPost_bx2 rfl w.heap.size [.int .u64 0, .int .u64 0, .int .u8 0, .string ⟨#[]⟩, .int .i64 0, .int .i64 0, .int .i64 0, .slice none 0 0, .slice none 0 0, .string ⟨#[]⟩, .int .i64 0, .int .i64 0, .int .i64 0, .slice none 0 0, .slice none 0 0, .string ⟨#[]⟩, .string ⟨#[]⟩, .int .i64 0, .string ⟨#[]⟩, .string ⟨#[]⟩, .int .u64 0] _ rfl rfl ?_ Try.underlying33 rfl rfl ?_
        case refine_1 => exact HE.out.1
        case refine_2 => exact ⟨HNO.out _ HNX.out, HE.out.2⟩
      | true =>
        rw [hk] at hc
        obtain ⟨y1, y2⟩ := HV.out.yes HBN.out hk
        have HY := Lib.hid (fun z v2 v3 v4 v5 hr => HYE.out y1 z v2 v3 v4 v5 hr)
        rw [y2] at HY
        have HC := Lib.hid hc
        clear hc hk y1 y2
        go_wp2_with fail
        refine (HC.out _ HPR.out).mono ?_
        rintro e x5 ⟨rfl, hb⟩
        have HZ6 := Lib.hid (HZ5.out.below hb)
        have HR6 := Lib.hid (HR5.out.below hb)
        clear hb c0 c1 g0 g1
        have hlg := HZ6.out.lg
        have hlc := HZ6.out.lc
        have hth := HZ6.out.rb.there 21 rfl
        have hone := all_oneCell_toArray (cdC_one CC (.slice s2 CC.nd.ls.length d2) (.slice s3 CC.nd.ts.length d3) (.slice s4 CC.td.ws.length d4) (.slice s5 CC.td.bs.length d5) rfl rfl rfl rfl)
        have HE := Lib.hid (HZ6.out.all (cdC CC (.slice s2 CC.nd.ls.length d2) (.slice s3 CC.nd.ts.length d3) (.slice s4 CC.td.ws.length d4) (.slice s5 CC.td.bs.length d5)) rfl)
        have HRE : Hid (Rows (x5.setCells w.heap.size 0 (cdC CC (.slice s2 CC.nd.ls.length d2) (.slice s3 CC.nd.ts.length d3) (.slice s4 CC.td.ws.length d4) (.slice s5 CC.td.bs.length d5))) w.heap.size CC (.slice s2 CC.nd.ls.length d2) (.slice s3 CC.nd.ts.length d3) (.slice s4 CC.td.ws.length d4) (.slice s5 CC.td.bs.length d5)) := (HR6.out.off (only_setCells _ _ _ _) (by omega)).less (by omega)
        go_upto_region 20 with fail
        refine wp_region_list ?_
        refine wpList_load_mid rfl 33 (.tmp 5) rfl C 0 rfl (cdC CC (.slice s2 CC.nd.ls.length d2) (.slice s3 CC.nd.ts.length d3) (.slice s4 CC.td.ws.length d4) (.slice s5 CC.td.bs.length d5)) _ (HZ6.out.bx.range 0) Try.underlying33 rfl rfl ?_
        refine wpList_store_mid rfl 33 (.tmp 2) (.tmp 81) rfl w.heap.size 0 (cdC CC (.slice s2 CC.nd.ls.length d2) (.slice s3 CC.nd.ts.length d3) (.slice s4 CC.td.ws.length d4) (.slice s5 CC.td.bs.length d5)).toArray rfl rfl hth rfl hone ?_
        clear hth hone
        rw [show (cdC CC (.slice s2 CC.nd.ls.length d2) (.slice s3 CC.nd.ts.length d3) (.slice s4 CC.td.ws.length d4) (.slice s5 CC.td.bs.length d5)).toArray.toList = (cdC CC (.slice s2 CC.nd.ls.length d2) (.slice s3 CC.nd.ts.length d3) (.slice s4 CC.td.ws.length d4) (.slice s5 CC.td.bs.length d5)) from rfl]
        generalize x5.setCells w.heap.size 0 (cdC CC (.slice s2 CC.nd.ls.length d2) (.slice s3 CC.nd.ts.length d3) (.slice s4 CC.td.ws.length d4) (.slice s5 CC.td.bs.length d5)) = W6 at *
        go_wp2
        refine bodyPost_bx2 rfl w.heap.size (cdC CC (.slice s2 CC.nd.ls.length d2) (.slice s3 CC.nd.ts.length d3) (.slice s4 CC.td.ws.length d4) (.slice s5 CC.td.bs.length d5)) _ rfl rfl ?_ Try.underlying33 rfl rfl ?_
        case refine_1 => exact HE.out.1
        case refine_2 => exact ⟨HY.out _ _ _ _ _ HRE.out, HE.out.2⟩
    · have HNX := Lib.hid (HV.out.nor HML.out hr)
      have m1 : ¬ (bs r).toList = [] := fun h => hr ((bs_nil _).1 h)
      have m2 : (bs r).toList.isEmpty = false := by
        rw [← Bool.not_eq_true, List.isEmpty_iff]
        exact m1
      clear hr
      go_upto_region 19 with fail
      refine wp_region_list ?_
      refine wpList_plain rfl fun K hK => ?_
      go_simp
      refine hK _ _ ?_
      clear hK K
      have hth := HZ5.out.rb.there 21 rfl
      have HE := Lib.hid (HZ5.out.all [.int .u64 0, .int .u64 0, .int .u8 0, .string ⟨#[]⟩, .int .i64 0, .int .i64 0, .int .i64 0, .slice none 0 0, .slice none 0 0, .string ⟨#[]⟩, .int .i64 0, .int .i64 0, .int .i64 0, .slice none 0 0, .slice none 0 0, .string ⟨#[]⟩, .string ⟨#[]⟩, .int .i64 0, .string ⟨#[]⟩, .string ⟨#[]⟩, .int .u64 0] rfl)
      refine wpList_store_mid rfl 33 (.tmp 2) (.tmp 80) rfl w.heap.size 0 #[.int .u64 0, .int .u64 0, .int .u8 0, .string ⟨#[]⟩, .int .i64 0, .int .i64 0, .int .i64 0, .slice none 0 0, .slice none 0 0, .string ⟨#[]⟩, .int .i64 0, .int .i64 0, .int .i64 0, .slice none 0 0, .slice none 0 0, .string ⟨#[]⟩, .string ⟨#[]⟩, .int .i64 0, .string ⟨#[]⟩, .string ⟨#[]⟩, .int .u64 0] rfl rfl hth rfl (all_oneCell_toArray (cdC_one (cd0 0 0 0) nilS nilS nilS nilS rfl rfl rfl rfl)) ?_
      clear hth
      go_wp2
      refine bodyPost_bx2 rfl w.heap.size [.int .u64 0, .int .u64 0, .int .u8 0, .string ⟨#[]⟩, .int .i64 0, .int .i64 0, .int .i64 0, .slice none 0 0, .slice none 0 0, .string ⟨#[]⟩, .int .i64 0, .int .i64 0, .int .i64 0, .slice none 0 0, .slice none 0 0, .string ⟨#[]⟩, .string ⟨#[]⟩, .int .i64 0, .string ⟨#[]⟩, .string ⟨#[]⟩, .int .u64 0] _ rfl rfl ?_ Try.underlying33 rfl rfl ?_
      case refine_1 => exact HE.out.1
      case refine_2 => exact ⟨HNO.out _ HNX.out, HE.out.2⟩
end Hd
end Go.Proofs.Ythlchdlgafincaa

/-
  gafferref09.Decode.
-/
namespace Go.Proofs.Ythlchdlgafincaa
open Go.RowKit
namespace Hd
open PM Hc
set_option maxRecDepth 100000 in
set_option maxHeartbeats 2000000 in
theorem dcd_name (l : List UInt8) (w : World) (hl : l.length ≤ maxLen) (h0 : ¬ tnN (tnR (tnR l)) = 0) (h1 : ¬ tnN (tnR (tnR l)) = 1) (h3 : ¬ tnN (tnR (tnR l)) = 3) (h5 : ¬ tnN (tnR (tnR l)) = 5) (h8 : ¬ 8 ≤ tnN (tnR (tnR l))) (hf : (((false || decide (tnW l ≠ 0)) || decide (tnW (tnR l) ≠ 0)) || decide (tnW (tnR (tnR l)) ≠ 0)) = false) :
    Calls Try.prog 13 #[.string (bs l)] w fun e w' => DcIs l w.heap.size e w' ∧ Below w.heap.size w w' := by
  have HD0 : Hdr l (tnN l) (tnN (tnR l)) (tnN (tnR (tnR l))) (tnR (tnR (tnR l))) (((false || decide (tnW l ≠ 0)) || decide (tnW (tnR l) ≠ 0)) || decide (tnW (tnR (tnR l)) ≠ 0)) := ((sp_num l false).and (sp_num (tnR l) _)).and (sp_num (tnR (tnR l)) _)
  have K0 := Lib.hid (fun g z (hz : Tk z g l false) => bag_number g l false z hz hl)
  have K1 := Lib.hid (fun g z (hz : Tk z g (tnR l) (false || decide (tnW l ≠ 0))) => bag_number g (tnR l) _ z hz (Nat.le_trans (tnR_length l) hl))
  have K2 := Lib.hid (fun g z (hz : Tk z g (tnR (tnR l)) ((false || decide (tnW l ≠ 0)) || decide (tnW (tnR l) ≠ 0))) => bag_number g (tnR (tnR l)) _ z hz (Nat.le_trans (tnR_length _) (Nat.le_trans (tnR_length l) hl)))
  have HL3 := Lib.hid (Nat.le_trans (tnR_length (tnR (tnR l))) (Nat.le_trans (tnR_length (tnR l)) (tnR_length l)))
  have HN0 := Lib.hid (tnN_lt l)
  have HN1 := Lib.hid (tnN_lt (tnR l))
  have HML := Lib.hid hl
  have HNO := Lib.hid (fun z (h : dcOk l = false) => DcIs.no w.heap.size z h)
  have HYE := Lib.hid (fun (h : dcOk l = true) z v2 v3 v4 v5 hr => DcIs.yes (base := w.heap.size) (w' := z) (v2 := v2) (v3 := v3) (v4 := v4) (v5 := v5) h hr)
  have HBE : Hid (Below w.heap.size w (w.alloc (.cells #[.int .u64 0, .int .u64 0, .int .u8 0, .string ⟨#[]⟩, .int .i64 0, .int .i64 0, .int .i64 0, .slice none 0 0, .slice none 0 0, .string ⟨#[]⟩, .int .i64 0, .int .i64 0, .int .i64 0, .slice none 0 0, .slice none 0 0, .string ⟨#[]⟩, .string ⟨#[]⟩, .int .i64 0, .string ⟨#[]⟩, .string ⟨#[]⟩, .int .u64 0] 33))) := (Below.refl _ _).alloc (Nat.le_refl _) _
  have HRB : Hid (Bxn (w.alloc (.cells #[.int .u64 0, .int .u64 0, .int .u8 0, .string ⟨#[]⟩, .int .i64 0, .int .i64 0, .int .i64 0, .slice none 0 0, .slice none 0 0, .string ⟨#[]⟩, .int .i64 0, .int .i64 0, .int .i64 0, .slice none 0 0, .slice none 0 0, .string ⟨#[]⟩, .string ⟨#[]⟩, .int .i64 0, .string ⟨#[]⟩, .string ⟨#[]⟩, .int .u64 0] 33)) w.heap.size [.int .u64 0, .int .u64 0, .int .u8 0, .string ⟨#[]⟩, .int .i64 0, .int .i64 0, .int .i64 0, .slice none 0 0, .slice none 0 0, .string ⟨#[]⟩, .int .i64 0, .int .i64 0, .int .i64 0, .slice none 0 0, .slice none 0 0, .string ⟨#[]⟩, .string ⟨#[]⟩, .int .i64 0, .string ⟨#[]⟩, .string ⟨#[]⟩, .int .u64 0]) := Bxn.made w _ _
  have KX := Lib.hid (fun g c r z (hz : Tk z g r c) (hr : r.length ≤ l.length) => bag_textS g r c z hz (Nat.le_trans hr hl))
  generalize tnR (tnR (tnR l)) = r3 at *
  generalize tnN (tnR (tnR l)) = n2 at *
  generalize tnN (tnR l) = n1 at *
  generalize tnN l = n0 at *
  generalize (((false || decide (tnW l ≠ 0)) || decide (tnW (tnR l) ≠ 0)) || decide (tnW (tnR (tnR l)) ≠ 0)) = b2 at *
  have HD := Lib.hid HD0
  clear HD0 hl
  go_enter Try.func13, Try.ntmps13
  go_upto_region 1 with fail
  generalize w.alloc (.cells #[.int .u64 0, .int .u64 0, .int .u8 0, .string ⟨#[]⟩, .int .i64 0, .int .i64 0, .int .i64 0, .slice none 0 0, .slice none 0 0, .string ⟨#[]⟩, .int .i64 0, .int .i64 0, .int .i64 0, .slice none 0 0, .slice none 0 0, .string ⟨#[]⟩, .string ⟨#[]⟩, .int .i64 0, .string ⟨#[]⟩, .string ⟨#[]⟩, .int .u64 0] 33) = W0 at *
  go_wp2_with fail
  refine (K0.out _ _ (Tk.made _ W0 l false)).mono ?_
  rintro e x1 ⟨rfl, h1, ho1⟩
  have HZ0 := Lib.hid (Dz.made [.int .u64 0, .int .u64 0, .int .u8 0, .string ⟨#[]⟩, .int .i64 0, .int .i64 0, .int .i64 0, .slice none 0 0, .slice none 0 0, .string ⟨#[]⟩, .int .i64 0, .int .i64 0, .int .i64 0, .slice none 0 0, .slice none 0 0, .string ⟨#[]⟩, .string ⟨#[]⟩, .int .i64 0, .string ⟨#[]⟩, .string ⟨#[]⟩, .int .u64 0] [.int .u64 0, .int .u64 0, .int .u8 0, .string ⟨#[]⟩, .int .i64 0, .int .i64 0, .int .i64 0, .slice none 0 0, .slice none 0 0, .string ⟨#[]⟩, .int .i64 0, .int .i64 0, .int .i64 0, .slice none 0 0, .slice none 0 0, .string ⟨#[]⟩, .string ⟨#[]⟩, .int .i64 0, .string ⟨#[]⟩, .string ⟨#[]⟩, .int .u64 0] 76 33 HRB.out HBE.out h1 ho1)
  have HZ1 := Lib.hid (HZ0.out.call [.int .u64 (n0 : Nat), .int .u64 0, .int .u8 0, .string ⟨#[]⟩, .int .i64 0, .int .i64 0, .int .i64 0, .slice none 0 0, .slice none 0 0, .string ⟨#[]⟩, .int .i64 0, .int .i64 0, .int .i64 0, .slice none 0 0, .slice none 0 0, .string ⟨#[]⟩, .string ⟨#[]⟩, .int .i64 0, .string ⟨#[]⟩, .string ⟨#[]⟩, .int .u64 0] rfl)
  have hth := HZ0.out.bx.there 21 rfl
  clear h1 ho1 HBE HRB K0 HZ0
  dsimp only
  refine ‹∀ (a : Act) (w : World), wpList Try.prog _ _ _ a w → _› _ _ ?_
  refine wpList_plain rfl fun K hK => ?_
  go_simp
  refine hK _ _ ?_
  clear hK K
  refine wpList_plain rfl fun K hK => ?_
  go_simp
  refine hK _ _ ?_
  clear hK K
  refine wpList_store_mid rfl 33 (.tmp 5) (.tmp 13) rfl x1.heap.size 0 #[.int .u64 (n0 : Nat), .int .u64 0, .int .u8 0, .string ⟨#[]⟩, .int .i64 0, .int .i64 0, .int .i64 0, .slice none 0 0, .slice none 0 0, .string ⟨#[]⟩, .int .i64 0, .int .i64 0, .int .i64 0, .slice none 0 0, .slice none 0 0, .string ⟨#[]⟩, .string ⟨#[]⟩, .int .i64 0, .string ⟨#[]⟩, .string ⟨#[]⟩, .int .u64 0] rfl rfl hth rfl (all_oneCell_toArray (cdC_one (cd0 n0 0 0) nilS nilS nilS nilS rfl rfl rfl rfl)) ?_
  clear hth
  refine wpList_nil ?_
  rw [show (#[.int .u64 (n0 : Nat), .int .u64 0, .int .u8 0, .string ⟨#[]⟩, .int .i64 0, .int .i64 0, .int .i64 0, .slice none 0 0, .slice none 0 0, .string ⟨#[]⟩, .int .i64 0, .int .i64 0, .int .i64 0, .slice none 0 0, .slice none 0 0, .string ⟨#[]⟩, .string ⟨#[]⟩, .int .i64 0, .string ⟨#[]⟩, .string ⟨#[]⟩, .int .u64 0] : Array Value).toList = [.int .u64 (n0 : Nat), .int .u64 0, .int .u8 0, .string ⟨#[]⟩, .int .i64 0, .int .i64 0, .int .i64 0, .slice none 0 0, .slice none 0 0, .string ⟨#[]⟩, .int .i64 0, .int .i64 0, .int .i64 0, .slice none 0 0, .slice none 0 0, .string ⟨#[]⟩, .string ⟨#[]⟩, .int .i64 0, .string ⟨#[]⟩, .string ⟨#[]⟩, .int .u64 0] from rfl]
  generalize (x1.alloc (.cells #[.int .u64 0, .int .u64 0, .int .u8 0, .string ⟨#[]⟩, .int .i64 0, .int .i64 0, .int .i64 0, .slice none 0 0, .slice none 0 0, .string ⟨#[]⟩, .int .i64 0, .int .i64 0, .int .i64 0, .slice none 0 0, .slice none 0 0, .string ⟨#[]⟩, .string ⟨#[]⟩, .int .i64 0, .string ⟨#[]⟩, .string ⟨#[]⟩, .int .u64 0] 33)).setCells x1.heap.size 0 [.int .u64 (n0 : Nat), .int .u64 0, .int .u8 0, .string ⟨#[]⟩, .int .i64 0, .int .i64 0, .int .i64 0, .slice none 0 0, .slice none 0 0, .string ⟨#[]⟩, .int .i64 0, .int .i64 0, .int .i64 0, .slice none 0 0, .slice none 0 0, .string ⟨#[]⟩, .string ⟨#[]⟩, .int .i64 0, .string ⟨#[]⟩, .string ⟨#[]⟩, .int .u64 0] = W1 at *
  generalize x1.heap.size = C at *
  generalize W0.heap.size = G at *
  go_wp2_with fail
  refine (K1.out _ _ HZ1.out.tk).mono ?_
  rintro e x2 ⟨rfl, h1, ho1⟩
  have HZ2 := Lib.hid (HZ1.out.go h1 ho1)
  have c1 : x2.cell? ⟨C, 1, none⟩ = some (.int .u64 0) := HZ2.out.bx.cell 1
  have f1 := HZ2.out.bx.fz 1
  have HZ3 := Lib.hid (HZ2.out.p 1 (.int .u64 (n1 : Nat)))
  clear h1 ho1 K1 HZ1
  go_wp2_with fail
  refine (K2.out _ _ HZ3.out.tk).mono ?_
  rintro e x3 ⟨rfl, h1, ho1⟩
  have HZ4 := Lib.hid (HZ3.out.go h1 ho1)
  clear h1 ho1 K2 HZ2 HZ3 c1 f1
  obtain ⟨c0, c1, g0, g1⟩ := HZ4.out.tk.cells
  subst hf
  have m0 : ¬ ((n2 : Nat) : Int) = 0 := by omega
  have p0 : (((n2 : Nat) : Int) == 0) = false := by simp; omega
  have m8 : ¬ (8 : Int) ≤ ((n2 : Nat) : Int) := by omega
  have p8 : decide ((8 : Int) ≤ ((n2 : Nat) : Int)) = false := decide_eq_false m8
  have m1 : ¬ ((n2 : Nat) : Int) = 1 := by omega
  have m3 : ¬ ((n2 : Nat) : Int) = 3 := by omega
  have m5 : ¬ ((n2 : Nat) : Int) = 5 := by omega
  have p1 : (((n2 : Nat) : Int) == 1) = false := by simp; omega
  have p3 : (((n2 : Nat) : Int) == 3) = false := by simp; omega
  have p5 : (((n2 : Nat) : Int) == 5) = false := by simp; omega
  have tk : IntKind.u8.wrap (((n2 : Nat) : Int)) = ((n2 : Nat) : Int) := by rw [IntKind.wrap_u8]; omega
  have HSZ := Lib.hid (Dy.made [.int .u8 0, .string ⟨#[]⟩, .int .i64 0, .int .i64 0, .int .i64 0, .slice none 0 0, .slice none 0 0, .string ⟨#[]⟩, .int .i64 0, .int .i64 0, .int .i64 0, .slice none 0 0, .slice none 0 0, .string ⟨#[]⟩, .string ⟨#[]⟩, .int .i64 0, .string ⟨#[]⟩, .string ⟨#[]⟩, .int .u64 0] 31 HZ4.out)
  have HS0 := Lib.hid (HSZ.out.oall [.int .u8 (((n2 : Nat) : Int)), .string ⟨#[]⟩, .int .i64 0, .int .i64 0, .int .i64 0, .slice none 0 0, .slice none 0 0, .string ⟨#[]⟩, .int .i64 0, .int .i64 0, .int .i64 0, .slice none 0 0, .slice none 0 0, .string ⟨#[]⟩, .string ⟨#[]⟩, .int .i64 0, .string ⟨#[]⟩, .string ⟨#[]⟩, .int .u64 0] rfl)
  have hth := HSZ.out.ob.there 19 rfl
  clear HSZ
  go_upto_region 7 with fail
  refine wp_region_list ?_
  refine wpList_plain rfl fun K hK => ?_
  go_simp
  refine hK _ _ ?_
  clear hK K
  refine wpList_plain rfl fun K hK => ?_
  go_simp
  refine hK _ _ ?_
  clear hK K
  refine wpList_plain rfl fun K hK => ?_
  go_simp
  refine hK _ _ ?_
  clear hK K
  refine wpList_plain rfl fun K hK => ?_
  go_simp
  refine hK _ _ ?_
  clear hK K
  refine wpList_store_mid rfl 31 (.tmp 7) (.tmp 34) rfl x3.heap.size 0 #[.int .u8 (((n2 : Nat) : Int)), .string ⟨#[]⟩, .int .i64 0, .int .i64 0, .int .i64 0, .slice none 0 0, .slice none 0 0, .string ⟨#[]⟩, .int .i64 0, .int .i64 0, .int .i64 0, .slice none 0 0, .slice none 0 0, .string ⟨#[]⟩, .string ⟨#[]⟩, .int .i64 0, .string ⟨#[]⟩, .string ⟨#[]⟩, .int .u64 0] rfl rfl hth rfl (all_oneCell_toArray (orC_one (cd0 0 0 (n2)) nilS nilS nilS nilS rfl rfl rfl rfl)) ?_
  clear hth
  refine wpList_nil ?_
  rw [show (#[.int .u8 (((n2 : Nat) : Int)), .string ⟨#[]⟩, .int .i64 0, .int .i64 0, .int .i64 0, .slice none 0 0, .slice none 0 0, .string ⟨#[]⟩, .int .i64 0, .int .i64 0, .int .i64 0, .slice none 0 0, .slice none 0 0, .string ⟨#[]⟩, .string ⟨#[]⟩, .int .i64 0, .string ⟨#[]⟩, .string ⟨#[]⟩, .int .u64 0] : Array Value).toList = [.int .u8 (((n2 : Nat) : Int)), .string ⟨#[]⟩, .int .i64 0, .int .i64 0, .int .i64 0, .slice none 0 0, .slice none 0 0, .string ⟨#[]⟩, .int .i64 0, .int .i64 0, .int .i64 0, .slice none 0 0, .slice none 0 0, .string ⟨#[]⟩, .string ⟨#[]⟩, .int .i64 0, .string ⟨#[]⟩, .string ⟨#[]⟩, .int .u64 0] from rfl]
  generalize (x3.alloc (.cells #[.int .u8 0, .string ⟨#[]⟩, .int .i64 0, .int .i64 0, .int .i64 0, .slice none 0 0, .slice none 0 0, .string ⟨#[]⟩, .int .i64 0, .int .i64 0, .int .i64 0, .slice none 0 0, .slice none 0 0, .string ⟨#[]⟩, .string ⟨#[]⟩, .int .i64 0, .string ⟨#[]⟩, .string ⟨#[]⟩, .int .u64 0] 31)).setCells x3.heap.size 0 [.int .u8 (((n2 : Nat) : Int)), .string ⟨#[]⟩, .int .i64 0, .int .i64 0, .int .i64 0, .slice none 0 0, .slice none 0 0, .string ⟨#[]⟩, .int .i64 0, .int .i64 0, .int .i64 0, .slice none 0 0, .slice none 0 0, .string ⟨#[]⟩, .string ⟨#[]⟩, .int .i64 0, .string ⟨#[]⟩, .string ⟨#[]⟩, .int .u64 0] = W3 at *
  generalize x3.heap.size = O at *
  clear c0 c1 g0 g1 HZ4
  have o0 : W3.cell? ⟨O, 0, none⟩ = some (.int .u8 ((n2 : Nat) : Int)) := HS0.out.ob.cell 0
  go_wp2_with fail
  refine (named_yes ((n2 : Nat) : Int) m1 m3 _).mono ?_
  rintro e x9 ⟨rfl, rfl⟩
  go_wp2_with fail
  refine (KX.out _ _ _ _ HS0.out.z.tk HL3.out).mono ?_
  rintro e x4 ⟨q, r, f, rfl, hq, hsp4, hx1, ho1⟩
  have HS1 := Lib.hid (HS0.out.go hx1 ho1)
  have HV0 := Lib.hid (HD.out.name h1 h3 h5 hsp4)
  have HQ4 := Lib.hid hq
  clear hx1 ho1 o0 hsp4 hq
  have o0 : x4.cell? ⟨O, 0, none⟩ = some (.int .u8 ((n2 : Nat) : Int)) := HS1.out.ob.cell 0
  have o16 : x4.cell? ⟨O, 16, none⟩ = some (.string ⟨#[]⟩) := HS1.out.ob.cell 16
  have z16 := HS1.out.ob.fz 16
  have HS2 := Lib.hid (HS1.out.p 16 (.string q))
  go_upto_region 17 with fail
  clear o0 o16 z16 HS0 HS1 KX
  obtain ⟨v2, v3, v4, v5, HS, HRW⟩ : ∃ v2 v3 v4 v5, Hid (Dy w G C O r f [.int .u64 ((⟨n0, n1, n2, nd0, td0, q, ⟨#[]⟩, 0⟩ : Cd).cl : Nat), .int .u64 ((⟨n0, n1, n2, nd0, td0, q, ⟨#[]⟩, 0⟩ : Cd).sq : Nat), .int .u8 0, .string ⟨#[]⟩, .int .i64 0, .int .i64 0, .int .i64 0, .slice none 0 0, .slice none 0 0, .string ⟨#[]⟩, .int .i64 0, .int .i64 0, .int .i64 0, .slice none 0 0, .slice none 0 0, .string ⟨#[]⟩, .string ⟨#[]⟩, .int .i64 0, .string ⟨#[]⟩, .string ⟨#[]⟩, .int .u64 0] (orC ⟨n0, n1, n2, nd0, td0, q, ⟨#[]⟩, 0⟩ v2 v3 v4 v5) [.int .u64 0, .int .u64 0, .int .u8 0, .string ⟨#[]⟩, .int .i64 0, .int .i64 0, .int .i64 0, .slice none 0 0, .slice none 0 0, .string ⟨#[]⟩, .int .i64 0, .int .i64 0, .int .i64 0, .slice none 0 0, .slice none 0 0, .string ⟨#[]⟩, .string ⟨#[]⟩, .int .i64 0, .string ⟨#[]⟩, .string ⟨#[]⟩, .int .u64 0] (x4.setCell ⟨O, 16, none⟩ (.string q))) ∧ Hid (Rows (x4.setCell ⟨O, 16, none⟩ (.string q)) (O + 1) ⟨n0, n1, n2, nd0, td0, q, ⟨#[]⟩, 0⟩ v2 v3 v4 v5) := ⟨nilS, nilS, nilS, nilS, HS2.out, ⟨OwnP.nil _ _, OwnP.nil _ _, OwnP.nil _ _, OwnP.nil _ _⟩⟩
  have HV : Hid (Vd l ⟨n0, n1, n2, nd0, td0, q, ⟨#[]⟩, 0⟩ r f) := HV0.out
  have HBN : Hid (Bnd ⟨n0, n1, n2, nd0, td0, q, ⟨#[]⟩, 0⟩) := ⟨HN0.out, HN1.out, by show n2 < 256; omega, by show 0 < 2 ^ 64; omega⟩
  have HTK : Hid (TookC ⟨n0, n1, n2, nd0, td0, q, ⟨#[]⟩, 0⟩ maxLen) := ⟨nil_took _, nil_took _, nil_took _, nil_took _⟩
  have HLN : Hid (Lens ⟨n0, n1, n2, nd0, td0, q, ⟨#[]⟩, 0⟩) := ⟨Nat.zero_le _, Nat.zero_le _, Nat.zero_le _, Nat.zero_le _, HQ4.out, Nat.zero_le _⟩
  generalize (⟨n0, n1, n2, nd0, td0, q, ⟨#[]⟩, 0⟩ : Cd) = CC at *
  generalize x4.setCell ⟨O, 16, none⟩ (.string q) = X at *
  clear HS2 HV0 HQ4 HD HN0 HN1 HL3 m0 p0 m8 p8 m1 m3 m5 p1 p3 p5 h0 h1 h3 h5 h8 tk
  obtain ⟨s2, d2, rfl⟩ := HRW.out.1.slice
  obtain ⟨s3, d3, rfl⟩ := HRW.out.2.1.slice
  obtain ⟨s4, d4, rfl⟩ := HRW.out.2.2.1.slice
  obtain ⟨s5, d5, rfl⟩ := HRW.out.2.2.2.slice
  have hlo := HS.out.lo
  have hth := HS.out.z.bx.mthere 2 19 (by show 2 + 19 ≤ 21; omega)
  have hone := all_oneCell_toArray (orC_one CC (.slice s2 CC.nd.ls.length d2) (.slice s3 CC.nd.ts.length d3) (.slice s4 CC.td.ws.length d4) (.slice s5 CC.td.bs.length d5) rfl rfl rfl rfl)
  have HZ5 : Hid (Dz w G C r f (cdC CC (.slice s2 CC.nd.ls.length d2) (.slice s3 CC.nd.ts.length d3) (.slice s4 CC.td.ws.length d4) (.slice s5 CC.td.bs.length d5)) [.int .u64 0, .int .u64 0, .int .u8 0, .string ⟨#[]⟩, .int .i64 0, .int .i64 0, .int .i64 0, .slice none 0 0, .slice none 0 0, .string ⟨#[]⟩, .int .i64 0, .int .i64 0, .int .i64 0, .slice none 0 0, .slice none 0 0, .string ⟨#[]⟩, .string ⟨#[]⟩, .int .i64 0, .string ⟨#[]⟩, .string ⟨#[]⟩, .int .u64 0] (X.setCells C 2 (orC CC (.slice s2 CC.nd.ls.length d2) (.slice s3 CC.nd.ts.length d3) (.slice s4 CC.td.ws.length d4) (.slice s5 CC.td.bs.length d5)))) := HS.out.com 2 (orC CC (.slice s2 CC.nd.ls.length d2) (.slice s3 CC.nd.ts.length d3) (.slice s4 CC.td.ws.length d4) (.slice s5 CC.td.bs.length d5)) (by show 2 + 19 ≤ 21; omega)
  have HR5 := Lib.hid (HRW.out.off (only_setCells C (orC CC (.slice s2 CC.nd.ls.length d2) (.slice s3 CC.nd.ts.length d3) (.slice s4 CC.td.ws.length d4) (.slice s5 CC.td.bs.length d5)) 2 X) (by omega))
  refine wp_region_list ?_
  refine wpList_load_mid rfl 31 (.tmp 7) rfl O 0 rfl (orC CC (.slice s2 CC.nd.ls.length d2) (.slice s3 CC.nd.ts.length d3) (.slice s4 CC.td.ws.length d4) (.slice s5 CC.td.bs.length d5)) _ (HS.out.ob.range 0) Try.underlying31 rfl rfl ?_
  refine wpList_plain rfl fun K hK => ?_
  go_simp
  refine hK _ _ ?_
  clear hK K
  refine wpList_store_mid rfl 31 (.tmp 63) (.tmp 62) rfl C 2 (orC CC (.slice s2 CC.nd.ls.length d2) (.slice s3 CC.nd.ts.length d3) (.slice s4 CC.td.ws.length d4) (.slice s5 CC.td.bs.length d5)).toArray rfl rfl hth rfl hone ?_
  clear hth hone
  refine wpList_nil ?_
  rw [show (orC CC (.slice s2 CC.nd.ls.length d2) (.slice s3 CC.nd.ts.length d3) (.slice s4 CC.td.ws.length d4) (.slice s5 CC.td.bs.length d5)).toArray.toList = (orC CC (.slice s2 CC.nd.ls.length d2) (.slice s3 CC.nd.ts.length d3) (.slice s4 CC.td.ws.length d4) (.slice s5 CC.td.bs.length d5)) from rfl]
  generalize X.setCells C 2 (orC CC (.slice s2 CC.nd.ls.length d2) (.slice s3 CC.nd.ts.length d3) (.slice s4 CC.td.ws.length d4) (.slice s5 CC.td.bs.length d5)) = W5 at *
  clear HS HRW
  obtain ⟨c0, c1, g0, g1⟩ := HZ5.out.tk.cells
  cases f with
  | true =>
    have HNX := Lib.hid (HV.out.nof HML.out)
    go_upto_region 19 with fail
    refine wp_region_list ?_
    refine wpList_plain rfl fun K hK => ?_
    go_simp
    refine hK _ _ ?_
    clear hK K
    have hth := HZ5.out.rb.there 21 rfl
    have HE := Lib.hid (HZ5.out.all [.int .u64 0, .int .u64 0, .int .u8 0, .string ⟨#[]⟩, .int .i64 0, .int .i64 0, .int .i64 0, .slice none 0 0, .slice none 0 0, .string ⟨#[]⟩, .int .i64 0, .int .i64 0, .int .i64 0, .slice none 0 0, .slice none 0 0, .string ⟨#[]⟩, .string ⟨#[]⟩, .int .i64 0, .string ⟨#[]⟩, .string ⟨#[]⟩, .int .u64 0] rfl)
    refine wpList_store_mid rfl 33 (.tmp 2) (.tmp 80) rfl w.heap.size 0 #[.int .u64 0, .int .u64 0, .int .u8 0, .string ⟨#[]⟩, .int .i64 0, .int .i64 0, .int .i64 0, .slice none 0 0, .slice none 0 0, .string ⟨#[]⟩, .int .i64 0, .int .i64 0, .int .i64 0, .slice none 0 0, .slice none 0 0, .string ⟨#[]⟩, .string ⟨#[]⟩, .int .i64 0, .string ⟨#[]⟩, .string ⟨#[]⟩, .int .u64 0] rfl rfl hth rfl (all_oneCell_toArray (cdC_one (cd0 0 0 0) nilS nilS nilS nilS rfl rfl rfl rfl)) ?_
    clear hth
    go_wp2
    refine bodyPost_bx2 rfl w.heap.size [.int .u64 0, .int .u64 0, .int .u8 0, .string ⟨#[]⟩, .int .i64 0, .int .i64 0, .int .i64 0, .slice none 0 0, .slice none 0 0, .string ⟨#[]⟩, .int .i64 0, .int .i64 0, .int .i64 0, .slice none 0 0, .slice none 0 0, .string ⟨#[]⟩, .string ⟨#[]⟩, .int .i64 0, .string ⟨#[]⟩, .string ⟨#[]⟩, .int .u64 0] _ rfl rfl ?_ Try.underlying33 rfl rfl ?_
    case refine_1 => exact HE.out.1
    case refine_2 => exact ⟨HNO.out _ HNX.out, HE.out.2⟩
  | false =>
    by_cases hr : r = []
    · subst hr
      have e2 : (bs ([] : List UInt8)).toList = [] := (bs_nil _).2 rfl
      have HPR := Lib.hid (HR5.out.prs HTK.out)
      go_upto_region 18 with fail
      refine wp_region_list ?_
      refine wpList_plain rfl fun K hK => ?_
      go_simp
      refine hK _ _ ?_
      clear hK K
      refine wpList_plain rfl fun K hK => ?_
      go_simp
      refine hK _ _ ?_
      clear hK K
      refine wpList_plain rfl fun K hK => ?_
      go_simp
      refine hK _ _ ?_
      clear hK K
      refine wpList_plain rfl fun K hK => ?_
      go_simp
      refine hK _ _ ?_
      clear hK K
      refine wpList_plain rfl fun K hK => ?_
      go_simp
      refine hK _ _ ?_
      clear hK K
      refine BigFrame.wpList_want rfl fun K hK => ?_
      go_simp
      refine hK _ _ ?_
      clear hK K
      refine BigFrame.wpList_want rfl fun K hK => ?_
      go_simp
      refine hK _ _ ?_
      clear hK K
      refine BigFrame.wpList_want rfl fun K hK => ?_
      go_simp
      refine hK _ _ ?_
      clear hK K
      refine BigFrame.wpList_want rfl fun K hK => ?_
      go_simp
      refine hK _ _ ?_
      clear hK K
      refine BigFrame.wpList_want rfl fun K hK => ?_
      go_simp
      refine hK _ _ ?_
      clear hK K
      refine wpList_plain rfl fun K hK => ?_
      go_simp
      refine hK _ _ ?_
      clear hK K
      refine wpList_plain rfl fun K hK => ?_
      go_simp
      refine hK _ _ ?_
      clear hK K
      refine wl_load_want rfl 33 (.tmp 5) rfl C 0 rfl (cdC CC (.slice s2 CC.nd.ls.length d2) (.slice s3 CC.nd.ts.length d3) (.slice s4 CC.td.ws.length d4) (.slice s5 CC.td.bs.length d5)) _ (HZ5.out.bx.range 0) Try.underlying33 rfl rfl ?_
      have hc := fun z (hp : PrsIn z z.heap.size CC (.slice s2 CC.nd.ls.length d2) (.slice s3 CC.nd.ts.length d3) (.slice s4 CC.td.ws.length d4) (.slice s5 CC.td.bs.length d5)) => check_ref9 CC _ _ _ _ z hp HLN.out
      cases hk : ckB CC with
      | false =>
        rw [hk] at hc
        have HNX := Lib.hid (HV.out.noc HML.out hk)
        have HC := Lib.hid hc
        clear hc hk
        go_wp2_with fail
        refine (HC.out _ HPR.out).mono ?_
        rintro e x5 ⟨rfl, hb⟩
        have HZ6 := Lib.hid (HZ5.out.below hb)
        clear hb c0 c1 g0 g1
        go_upto_region 19 with fail
        refine wp_region_list ?_
        refine wpList_plain rfl fun K hK => ?_
        go_simp
        refine hK _ _ ?_
        clear hK K
        have hth := HZ6.out.rb.there 21 rfl
        have HE := Lib.hid (HZ6.out.all [.int .u64 0, .int .u64 0, .int .u8 0, .string ⟨#[]⟩, .int .i64 0, .int .i64 0, .int .i64 0, .slice none 0 0, .slice none 0 0, .string ⟨#[]⟩, .int .i64 0, .int .i64 0, .int .i64 0, .slice none 0 0, .slice none 0 0, .string ⟨#[]⟩, .string ⟨#[]⟩, .int .i64 0, .string ⟨#[]⟩, .string ⟨#[]⟩, .int .u64 0] rfl)
        refine wpList_store_mid rfl 33 (.tmp 2) (.tmp 80) rfl w.heap.size 0 #[.int .u64 0, .int .u64 0, .int .u8 0, .string ⟨#[]⟩, .int .i64 0, .int .i64 0, .int .i64 0, .slice none 0 0, .slice none 0 0, .string ⟨#[]⟩, .int .i64 0, .int .i64 0, .int .i64 0, .slice none 0 0, .slice none 0 0, .string ⟨#[]⟩, .string ⟨#[]⟩, .int .i64 0, .string ⟨#[]⟩, .string ⟨#[]⟩, .int .u64 0] rfl rfl hth rfl (all_oneCell_toArray (cdC_one (cd0 0 0 0) nilS nilS nilS nilS rfl rfl rfl rfl)) ?_
        clear hth
        go_wp2
        refine bodyPost_bx2 rfl w.heap.size [.int .u64 0, .int .u64 0, .int .u8 0, .string ⟨#[]⟩, .int .i64 0, .int .i64 0, .int .i64 0, .slice none 0 0, .slice none 0 0, .string ⟨#[]⟩, .int .i64 0, .int .i64 0, .int .i64 0, .slice none 0 0, .slice none 0 0, .string ⟨#[]⟩, .string ⟨#[]⟩, .int .i64 0, .string ⟨#[]⟩, .string ⟨#[]⟩, .int .u64 0] _ rfl rfl ?_ Try.underlying33 rfl rfl ?_
        case refine_1 => exact HE.out.1
        case refine_2 => exact ⟨HNO.out _ HNX.out, HE.out.2⟩
      | true =>
        rw [hk] at hc
        obtain ⟨y1, y2⟩ := HV.out.yes HBN.out hk
        have HY := Lib.hid (fun z v2 v3 v4 v5 hr => HYE.out y1 z v2 v3 v4 v5 hr)
        rw [y2] at HY
        have HC := Lib.hid hc
        clear hc hk y1 y2
        go_wp2_with fail
        refine (HC.out _ HPR.out).mono ?_
        rintro e x5 ⟨rfl, hb⟩
        have HZ6 := Lib.hid (HZ5.out.below hb)
        have HR6 := Lib.hid (HR5.out.below hb)
        clear hb c0 c1 g0 g1
        have hlg := HZ6.out.lg
        have hlc := HZ6.out.lc
        have hth := HZ6.out.rb.there 21 rfl
        have hone := all_oneCell_toArray (cdC_one CC (.slice s2 CC.nd.ls.length d2) (.slice s3 CC.nd.ts.length d3) (.slice s4 CC.td.ws.length d4) (.slice s5 CC.td.bs.length d5) rfl rfl rfl rfl)
        have HE := Lib.hid (HZ6.out.all (cdC CC (.slice s2 CC.nd.ls.length d2) (.slice s3 CC.nd.ts.length d3) (.slice s4 CC.td.ws.length d4) (.slice s5 CC.td.bs.length d5)) rfl)
        have HRE : Hid (Rows (x5.setCells w.heap.size 0 (cdC CC (.slice s2 CC.nd.ls.length d2) (.slice s3 CC.nd.ts.length d3) (.slice s4 CC.td.ws.length d4) (.slice s5 CC.td.bs.length d5))) w.heap.size CC (.slice s2 CC.nd.ls.length d2) (.slice s3 CC.nd.ts.length d3) (.slice s4 CC.td.ws.length d4) (.slice s5 CC.td.bs.length d5)) := (HR6.out.off (only_setCells _ _ _ _) (by omega)).less (by omega)
        go_upto_region 20 with fail
        refine wp_region_list ?_
        refine wpList_load_mid rfl 33 (.tmp 5) rfl C 0 rfl (cdC CC (.slice s2 CC.nd.ls.length d2) (.slice s3 CC.nd.ts.length d3) (.slice s4 CC.td.ws.length d4) (.slice s5 CC.td.bs.length d5)) _ (HZ6.out.bx.range 0) Try.underlying33 rfl rfl ?_
        refine wpList_store_mid rfl 33 (.tmp 2) (.tmp 81) rfl w.heap.size 0 (cdC CC (.slice s2 CC.nd.ls.length d2) (.slice s3 CC.nd.ts.length d3) (.slice s4 CC.td.ws.length d4) (.slice s5 CC.td.bs.length d5)).toArray rfl rfl hth rfl hone ?_
        clear hth hone
        rw [show (cdC CC (.slice s2 CC.nd.ls.length d2) (.slice s3 CC.nd.ts.length d3) (.slice s4 CC.td.ws.length d4) (.slice s5 CC.td.bs.length d5)).toArray.toList = (cdC CC (.slice s2 CC.nd.ls.length d2) (.slice s3 CC.nd.ts.length d3) (.slice s4 CC.td.ws.length d4) (.slice s5 CC.td.bs.length d5)) from rfl]
        generalize x5.setCells w.heap.size 0 (cdC CC (.slice s2 CC.nd.ls.length d2) (.slice s3 CC.nd.ts.length d3) (.slice s4 CC.td.ws.length d4) (.slice s5 CC.td.bs.length d5)) = W6 at *
        go_wp2
        refine bodyPost_bx2 rfl w.heap.size (cdC CC (.slice s2 CC.nd.ls.length d2) (.slice s3 CC.nd.ts.length d3) (.slice s4 CC.td.ws.length d4) (.slice s5 CC.td.bs.length d5)) _ rfl rfl ?_ Try.underlying33 rfl rfl ?_
        case refine_1 => exact HE.out.1
        case refine_2 => exact ⟨HY.out _ _ _ _ _ HRE.out, HE.out.2⟩
    · have HNX := Lib.hid (HV.out.nor HML.out hr)
      have m1 : ¬ (bs r).toList = [] := fun h => hr ((bs_nil _).1 h)
      have m2 : (bs r).toList.isEmpty = false := by
        rw [← Bool.not_eq_true, List.isEmpty_iff]
        exact m1
      clear hr
      go_upto_region 19 with fail
      refine wp_region_list ?_
      refine wpList_plain rfl fun K hK => ?_
      go_simp
      refine hK _ _ ?_
      clear hK K
      have hth := HZ5.out.rb.there 21 rfl
      have HE := Lib.hid (HZ5.out.all [.int .u64 0, .int .u64 0, .int .u8 0, .string ⟨#[]⟩, .int .i64 0, .int .i64 0, .int .i64 0, .slice none 0 0, .slice none 0 0, .string ⟨#[]⟩, .int .i64 0, .int .i64 0, .int .i64 0, .slice none 0 0, .slice none 0 0, .string ⟨#[]⟩, .string ⟨#[]⟩, .int .i64 0, .string ⟨#[]⟩, .string ⟨#[]⟩, .int .u64 0] rfl)
      refine wpList_store_mid rfl 33 (.tmp 2) (.tmp 80) rfl w.heap.size 0 #[.int .u64 0, .int .u64 0, .int .u8 0, .string ⟨#[]⟩, .int .i64 0, .int .i64 0, .int .i64 0, .slice none 0 0, .slice none 0 0, .string ⟨#[]⟩, .int .i64 0, .int .i64 0, .int .i64 0, .slice none 0 0, .slice none 0 0, .string ⟨#[]⟩, .string ⟨#[]⟩, .int .i64 0, .string ⟨#[]⟩, .string ⟨#[]⟩, .int .u64 0] rfl rfl hth rfl (all_oneCell_toArray (cdC_one (cd0 0 0 0) nilS nilS nilS nilS rfl rfl rfl rfl)) ?_
      clear hth
      go_wp2
      refine bodyPost_bx2 rfl w.heap.size [.int .u64 0, .int .u64 0, .int .u8 0, .string ⟨#[]⟩, .int .i64 0, .int .i64 0, .int .i64 0, .slice none 0 0, .slice none 0 0, .string ⟨#[]⟩, .int .i64 0, .int .i64 0, .int .i64 0, .slice none 0 0, .slice none 0 0, .string ⟨#[]⟩, .string ⟨#[]⟩, .int .i64 0, .string ⟨#[]⟩, .string ⟨#[]⟩, .int .u64 0] _ rfl rfl ?_ Try.underlying33 rfl rfl ?_
      case refine_1 => exact HE.out.1
      case refine_2 => exact ⟨HNO.out _ HNX.out, HE.out.2⟩
end Hd
end Go.Proofs.Ythlchdlgafincaa

/-
  gafferref09.Decode, whole.
-/
namespace Go.Proofs.Ythlchdlgafincaa
open Go.RowKit
namespace Hd
open PM Hc
theorem decode_ref9 (l : List UInt8) (w : World) (hl : l.length ≤ maxLen) :
    Calls Try.prog 13 #[.string (bs l)] w fun e w' => DcIs l w.heap.size e w' ∧ Below w.heap.size w w' := by
  cases hf : (((false || decide (tnW l ≠ 0)) || decide (tnW (tnR l) ≠ 0)) || decide (tnW (tnR (tnR l)) ≠ 0)) with
  | true => exact dcd_bad l w hl hf
  | false =>
    by_cases h0 : tnN (tnR (tnR l)) = 0
    · exact dcd_zero l w hl h0 hf
    by_cases h8 : 8 ≤ tnN (tnR (tnR l))
    · exact dcd_big l w hl h8 hf
    by_cases h1 : tnN (tnR (tnR l)) = 1
    · exact dcd_node l w hl h1 hf
    by_cases h3 : tnN (tnR (tnR l)) = 3
    · exact dcd_task l w hl h3 hf
    by_cases h5 : tnN (tnR (tnR l)) = 5
    · exact dcd_bind l w hl h5 hf
    exact dcd_name l w hl h0 h1 h3 h5 h8 hf
end Hd
end Go.Proofs.Ythlchdlgafincaa
