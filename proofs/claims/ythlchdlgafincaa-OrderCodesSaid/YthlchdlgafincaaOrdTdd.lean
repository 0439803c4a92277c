/-
  WHAT IS TOLD, read.
-/
import Derived.Test.YthlchdlgafincaaOrdTold
namespace Go.Proofs.Ythlchdlgafincaa
open Go.RowKit
namespace Hd
open PM
theorem load_ctaker (w : World) (B : Nat) (s : ByteArray) (b : Bool) (h : Bx2 w B (.string s) (.bool b)) :
    (loadVar 69 ⟨B, 0, none⟩).run Try.prog w = .ok (.agg #[.string s, .bool b]) w := by
  obtain ⟨c0, c1⟩ := h.cells
  have a := Try.isAgg69 w
  have c := Try.sizeOf69 w
  go_simp
theorem bodyPost_ctaker {fn : Func} {p : Tmp} (h : fn.results = #[.cell p 69]) {R : Ending → World → Prop} {a : Act} {w : World} (B : Nat) (s : ByteArray) (b : Bool) (hd : a.defers = [])
    (hp : a.tmps.getD p undef = .pointer (some ⟨B, 0, none⟩)) (hx : Bx2 w B (.string s) (.bool b))
    (hR : R (.returned (.agg #[.string s, .bool b])) w) : bodyPost Try.prog fn R .ret a w := by
  refine bodyPost_ret ?_ hd hR
  rw [one_result h, hp]
  have := load_ctaker w B s b hx
  simp [asAddr, this, Result.andThen]
set_option maxRecDepth 100000 in
set_option maxHeartbeats 1000000 in
theorem cof_any (s : ByteArray) (w : World) : Calls Try.prog 25 #[.string s] w fun e w' => e = .returned (.agg #[.string s, .bool false]) ∧ Below w.heap.size w w' := by
  have HR : Hid (∀ z, Below (w.alloc (.cells #[.string ⟨#[]⟩, .bool false] 69)).heap.size (w.alloc (.cells #[.string ⟨#[]⟩, .bool false] 69)) z → Bx2 z w.heap.size (.string ⟨#[]⟩) (.bool false) ∧ Below w.heap.size w z) := fun z hb => ⟨(Bx2.made w _ _ _).below hb, ((Below.refl w.heap.size w).alloc (Nat.le_refl _) _).trans (hb.mono (by simp))⟩
  have HO := Lib.hid (fun z => of_any s z)
  go_enter Try.func25, Try.ntmps25
  go_wp2_with fail
  refine (HO.out _).mono ?_
  rintro e w1 ⟨rfl, hb⟩
  have HB := Lib.hid (HR.out _ hb)
  clear hb
  obtain ⟨c0, c1⟩ := HB.out.1.cells
  obtain ⟨f0, f1⟩ := HB.out.1.fz
  go_wp2
  refine bodyPost_ctaker rfl w.heap.size s false rfl rfl ?_ ?_
  case refine_1 => exact (HB.out.1.set0 _).set1 _
  case refine_2 => exact ⟨rfl, (HB.out.2.setCell (Nat.le_refl _) _).setCell (Nat.le_refl _) _⟩
theorem bodyPost_told2 {fn : Func} {p u : Tmp} (h : fn.results = #[.cell p 44, .tmp u]) {R : Ending → World → Prop} {a : Act} {w : World} (B : Nat) (v : Int) (s : ByteArray) (hd : a.defers = [])
    (hp : a.tmps.getD p undef = .pointer (some ⟨B, 0, none⟩)) (hx : Bx2 w B (.int .i64 v) (.string s))
    (hR : R (.returned (.tuple #[.agg #[.int .i64 v, .string s], a.tmps.getD u undef])) w) : bodyPost Try.prog fn R .ret a w := by
  refine bodyPost_ret ?_ hd hR
  rw [results_cell_tmp h, hp]
  have := load_told w B v s hx
  simp [asAddr, this, Result.andThen]
def tdN (l : List UInt8) : Bool := !(decide (ttW (tdR l) ≠ 0)) && (ttR (tdR l)).isEmpty
def tuOk (l : List UInt8) : Bool := tdN l && tdOk (tdW l : Nat) (bs (ttT (tdR l)))
def TuIs (l : List UInt8) (e : Ending) : Prop := e = .returned (.tuple #[.agg #[.int .i64 (if tuOk l = true then tdW l else 0 : Nat), .string (bs (if tuOk l = true then ttT (tdR l) else []))], .int .i64 (if tuOk l = true then 0 else 4 : Nat)])
theorem TuIs.no {l : List UInt8} (h : tuOk l = false) : TuIs l (.returned (.tuple #[.agg #[.int .i64 0, .string ⟨#[]⟩], .int .i64 4])) := by unfold TuIs; rw [h]; rfl
theorem TuIs.yes {l : List UInt8} (h : tuOk l = true) : TuIs l (.returned (.tuple #[.agg #[.int .i64 (tdW l : Nat), .string (bs (ttT (tdR l)))], .int .i64 0])) := by unfold TuIs; rw [h]; rfl
set_option maxRecDepth 100000 in
set_option maxHeartbeats 2000000 in
theorem told_decode (l : List UInt8) (w : World) (hl : l.length ≤ maxLen) :
    Calls Try.prog 20 #[.string (bs l)] w fun e w' => TuIs l e ∧ Below w.heap.size w w' := by
  have HR : Hid (∀ z, Below (w.alloc (.cells #[.int .i64 0, .string ⟨#[]⟩] 44)).heap.size (w.alloc (.cells #[.int .i64 0, .string ⟨#[]⟩] 44)) z → Bx2 z w.heap.size (.int .i64 0) (.string ⟨#[]⟩) ∧ Below w.heap.size w z) := fun z hb => ⟨(Bx2.made w _ _ _).below hb, ((Below.refl w.heap.size w).alloc (Nat.le_refl _) _).trans (hb.mono (by simp))⟩
  have HO := Lib.hid (fun z => cof_any (bs l) z)
  have HT := Lib.hid (fun g z (hz : Tk z g l false) => told_take g l false z hz hl)
  have hd : ∀ g z, Tk z g (ttR (tdR l)) (decide (ttW (tdR l) ≠ 0)) → Calls Try.prog 27 #[.pointer (some ⟨g, 0, none⟩)] z fun e w' => e = .returned (.bool (tdN l)) ∧ z = w' := fun g z hz => done_part g _ _ z hz
  have hc := fun z => told_right (tdW l : Nat) (bs (ttT (tdR l))) z
  have hno := fun h => TuIs.no (l := l) h
  have hye := fun h => TuIs.yes (l := l) h
  have hok : tuOk l = (tdN l && tdOk (tdW l : Nat) (bs (ttT (tdR l)))) := rfl
  clear hl
  generalize tdN l = n at *
  generalize tdOk (tdW l : Nat) (bs (ttT (tdR l))) = k at *
  generalize tuOk l = u at *
  generalize tdW l = v at *
  generalize bs (ttT (tdR l)) = q at *
  cases n with
  | false =>
    have HNO := Lib.hid (hno hok)
    have HD := Lib.hid hd
    clear hno hye hok hd hc
    go_enter Try.func20, Try.ntmps20
    go_wp2_with fail
    refine (HO.out _).mono ?_
    rintro e w1 ⟨rfl, hb⟩
    have HB1 := Lib.hid (HR.out _ hb)
    clear hb
    go_wp2_with fail
    refine (HT.out _ _ (Tk.made _ w1 l false)).mono ?_
    rintro e w2 ⟨rfl, h2, ho2⟩
    have hb2 : Below w2.heap.size w2 (w2.alloc (.cells #[.int .i64 (v : Nat), .string q] 44)) := (Below.refl _ _).alloc (Nat.le_refl _) _
    have HK2 := Lib.hid (h2.below hb2 h2.lt)
    have hlt : w.heap.size < w1.heap.size := HB1.out.1.lt
    have hw2 : Below w.heap.size w w2 := HB1.out.2.trans ((((Below.refl w1.heap.size w1).alloc (Nat.le_refl _) (.cells #[.string (bs l), .bool false] 72)).mono (by omega)).trans (ho2.below (by simp; omega) (by omega)))
    have HB2 := Lib.hid (And.intro (((HB1.out.1.below ((Below.refl _ _).alloc (Nat.le_refl _) _)).only ho2 (by omega)).below hb2) (hw2.trans (hb2.mono hw2.size)))
    have HS2 := Lib.hid (Bx2.made w2 (.int .i64 (v : Nat)) (.string q) 44)
    clear h2 ho2 hb2 hw2 hlt
    go_wp2_with fail
    refine (HD.out _ _ HK2.out).mono ?_
    rintro e w3 ⟨rfl, rfl⟩
    obtain ⟨c0, c1⟩ := HB2.out.1.cells
    obtain ⟨f0, f1⟩ := HB2.out.1.fz
    obtain ⟨s0, s1⟩ := HS2.out.cells
    go_wp2
    refine bodyPost_told2 rfl w.heap.size 0 ⟨#[]⟩ rfl rfl ?_ ?_
    case refine_1 => exact (HB2.out.1.set0 _).set1 _
    case refine_2 => exact ⟨HNO.out, (HB2.out.2.setCell (Nat.le_refl _) _).setCell (Nat.le_refl _) _⟩
  | true =>
    cases k with
    | false =>
      have HNO := Lib.hid (hno hok)
      have HD := Lib.hid hd
      have HC := Lib.hid hc
      clear hno hye hok hd hc
      go_enter Try.func20, Try.ntmps20
      go_wp2_with fail
      refine (HO.out _).mono ?_
      rintro e w1 ⟨rfl, hb⟩
      have HB1 := Lib.hid (HR.out _ hb)
      clear hb
      go_wp2_with fail
      refine (HT.out _ _ (Tk.made _ w1 l false)).mono ?_
      rintro e w2 ⟨rfl, h2, ho2⟩
      have hb2 : Below w2.heap.size w2 (w2.alloc (.cells #[.int .i64 (v : Nat), .string q] 44)) := (Below.refl _ _).alloc (Nat.le_refl _) _
      have HK2 := Lib.hid (h2.below hb2 h2.lt)
      have hlt : w.heap.size < w1.heap.size := HB1.out.1.lt
      have hw2 : Below w.heap.size w w2 := HB1.out.2.trans ((((Below.refl w1.heap.size w1).alloc (Nat.le_refl _) (.cells #[.string (bs l), .bool false] 72)).mono (by omega)).trans (ho2.below (by simp; omega) (by omega)))
      have HB2 := Lib.hid (And.intro (((HB1.out.1.below ((Below.refl _ _).alloc (Nat.le_refl _) _)).only ho2 (by omega)).below hb2) (hw2.trans (hb2.mono hw2.size)))
      have HS2 := Lib.hid (Bx2.made w2 (.int .i64 (v : Nat)) (.string q) 44)
      clear h2 ho2 hb2 hw2 hlt
      go_wp2_with fail
      refine (HD.out _ _ HK2.out).mono ?_
      rintro e w3 ⟨rfl, rfl⟩
      obtain ⟨c0, c1⟩ := HB2.out.1.cells
      obtain ⟨f0, f1⟩ := HB2.out.1.fz
      obtain ⟨s0, s1⟩ := HS2.out.cells
      go_wp2_with fail
      refine (HC.out _).mono ?_
      rintro e w4 ⟨rfl, hb4⟩
      have HB4 := Lib.hid (And.intro (HB2.out.1.below hb4) (HB2.out.2.trans (hb4.mono HB2.out.2.size)))
      have HS4 := Lib.hid (HS2.out.below hb4)
      clear hb4 c0 c1 f0 f1 s0 s1
      obtain ⟨c0, c1⟩ := HB4.out.1.cells
      obtain ⟨f0, f1⟩ := HB4.out.1.fz
      obtain ⟨s0, s1⟩ := HS4.out.cells
      go_wp2
      refine bodyPost_told2 rfl w.heap.size 0 ⟨#[]⟩ rfl rfl ?_ ?_
      case refine_1 => exact (HB4.out.1.set0 _).set1 _
      case refine_2 => exact ⟨HNO.out, (HB4.out.2.setCell (Nat.le_refl _) _).setCell (Nat.le_refl _) _⟩
    | true =>
      have HYE := Lib.hid (hye hok)
      have HD := Lib.hid hd
      have HC := Lib.hid hc
      clear hno hye hok hd hc
      go_enter Try.func20, Try.ntmps20
      go_wp2_with fail
      refine (HO.out _).mono ?_
      rintro e w1 ⟨rfl, hb⟩
      have HB1 := Lib.hid (HR.out _ hb)
      clear hb
      go_wp2_with fail
      refine (HT.out _ _ (Tk.made _ w1 l false)).mono ?_
      rintro e w2 ⟨rfl, h2, ho2⟩
      have hb2 : Below w2.heap.size w2 (w2.alloc (.cells #[.int .i64 (v : Nat), .string q] 44)) := (Below.refl _ _).alloc (Nat.le_refl _) _
      have HK2 := Lib.hid (h2.below hb2 h2.lt)
      have hlt : w.heap.size < w1.heap.size := HB1.out.1.lt
      have hw2 : Below w.heap.size w w2 := HB1.out.2.trans ((((Below.refl w1.heap.size w1).alloc (Nat.le_refl _) (.cells #[.string (bs l), .bool false] 72)).mono (by omega)).trans (ho2.below (by simp; omega) (by omega)))
      have HB2 := Lib.hid (And.intro (((HB1.out.1.below ((Below.refl _ _).alloc (Nat.le_refl _) _)).only ho2 (by omega)).below hb2) (hw2.trans (hb2.mono hw2.size)))
      have HS2 := Lib.hid (Bx2.made w2 (.int .i64 (v : Nat)) (.string q) 44)
      clear h2 ho2 hb2 hw2 hlt
      go_wp2_with fail
      refine (HD.out _ _ HK2.out).mono ?_
      rintro e w3 ⟨rfl, rfl⟩
      obtain ⟨c0, c1⟩ := HB2.out.1.cells
      obtain ⟨f0, f1⟩ := HB2.out.1.fz
      obtain ⟨s0, s1⟩ := HS2.out.cells
      go_wp2_with fail
      refine (HC.out _).mono ?_
      rintro e w4 ⟨rfl, hb4⟩
      have HB4 := Lib.hid (And.intro (HB2.out.1.below hb4) (HB2.out.2.trans (hb4.mono HB2.out.2.size)))
      have HS4 := Lib.hid (HS2.out.below hb4)
      clear hb4 c0 c1 f0 f1 s0 s1
      obtain ⟨c0, c1⟩ := HB4.out.1.cells
      obtain ⟨f0, f1⟩ := HB4.out.1.fz
      obtain ⟨s0, s1⟩ := HS4.out.cells
      go_wp2
      refine bodyPost_told2 rfl w.heap.size v q rfl rfl ?_ ?_
      case refine_1 => exact (HB4.out.1.set0 _).set1 _
      case refine_2 => exact ⟨HYE.out, (HB4.out.2.setCell (Nat.le_refl _) _).setCell (Nat.le_refl _) _⟩
end Hd
end Go.Proofs.Ythlchdlgafincaa
