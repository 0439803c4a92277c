/-
  THE DOCUMENT'S BAG: a number, a text, something told, taken of it; what is told, written and read.
-/
import Derived.Test.YthlchdlgafincaaOrdTArg
import Derived.Test.YthlchdlgafincaaPackTakeRef
import Derived.Test.YthlchdlgafincaaPackRefNum
import Derived.Deep.RegionHeld3
namespace Go.Proofs.Ythlchdlgafincaa
open Go.RowKit
namespace Hd
open PM Hc
theorem Tk.put0 {w : World} {g : Nat} {l m : List UInt8} {b : Bool} (h : Tk w g l b) : Tk (w.setCell ⟨g, 0, none⟩ (.string (bs m))) g m b := by
  obtain ⟨T, h⟩ := h
  exact ⟨T, by simp [World.setCell, Array.getElem?_modify, h]⟩
theorem Tk.put1 {w : World} {g : Nat} {l : List UInt8} {b c : Bool} (h : Tk w g l b) : Tk (w.setCell ⟨g, 1, none⟩ (.bool c)) g l c := by
  obtain ⟨T, h⟩ := h
  exact ⟨T, by simp [World.setCell, Array.getElem?_modify, h]⟩
set_option maxRecDepth 100000 in
set_option maxHeartbeats 1000000 in
theorem bag_number (g : Nat) (l : List UInt8) (b : Bool) (w : World) (h : Tk w g l b) (hl : l.length ≤ maxLen) :
    Calls Try.prog 28 #[.pointer (some ⟨g, 0, none⟩)] w fun en w' => en = .returned (.int .u64 (tnN l : Nat)) ∧ Tk w' g (tnR l) (b || decide (tnW l ≠ 0)) ∧ Only g w w' := by
  obtain ⟨c0, c1, f0, f1⟩ := h.cells
  have HT := PackTakeRef.take_ref (bs l) w (by rw [bs_size]; exact hl)
  unfold PackTakeNum.Took at HT
  rw [bs_data] at HT
  have H1 := Lib.hid HT
  have H := Lib.hid h
  have hlt := h.lt
  clear h HT hl
  go_enter Try.func28, Try.ntmps28
  go_wp2_with fail
  refine H1.out.mono ?_
  rintro en w1 ⟨rfl, hb⟩
  have H2 := Lib.hid (H.out.below hb hlt)
  have HO := Lib.hid (Only.of_below (g := g) hb)
  clear hb c0 c1 f0 f1
  obtain ⟨c0, c1, f0, f1⟩ := H2.out.cells
  by_cases he : tnW l = 0
  · have HB : Hid ((b || decide (tnW l ≠ 0)) = b) := by show _ = _; simp [he]
    rw [he]
    clear he
    go_wp2
    go_ret
    exact ⟨rfl, by rw [HB.out]; exact H2.out.put0, HO.out.set _ _⟩
  · have he2 : ¬ (((tnW l : Nat) : Int) = 0) := by omega
    have he3 : (((tnW l : Nat) : Int) != 0) = true := by simp; omega
    have HB : Hid ((b || decide (tnW l ≠ 0)) = true) := by show _ = _; simp [he]
    clear he
    go_wp2
    go_ret
    exact ⟨rfl, by rw [HB.out]; exact H2.out.put0.put1, (HO.out.set _ _).set _ _⟩
set_option maxRecDepth 100000 in
set_option maxHeartbeats 1000000 in
theorem bag_text (g : Nat) (l : List UInt8) (b : Bool) (w : World) (h : Tk w g l b) (hl : l.length ≤ maxLen) :
    Calls Try.prog 32 #[.pointer (some ⟨g, 0, none⟩)] w fun en w' => en = .returned (.string (bs (ttT l))) ∧ Tk w' g (ttR l) (b || decide (ttW l ≠ 0)) ∧ Only g w w' := by
  obtain ⟨c0, c1, f0, f1⟩ := h.cells
  have HT := PackText.takeText_ref (bs l) w (by rw [bs_size]; exact hl)
  unfold PackText.TookT at HT
  rw [bs_data] at HT
  have H1 := Lib.hid HT
  have H := Lib.hid h
  have hlt := h.lt
  clear h HT hl
  generalize bs (ttT l) = q at *
  go_enter Try.func32, Try.ntmps32
  go_wp2_with fail
  refine H1.out.mono ?_
  rintro en w1 ⟨rfl, hb⟩
  have H2 := Lib.hid (H.out.below hb hlt)
  have HO := Lib.hid (Only.of_below (g := g) hb)
  clear hb c0 c1 f0 f1
  obtain ⟨c0, c1, f0, f1⟩ := H2.out.cells
  by_cases he : ttW l = 0
  · have HB : Hid ((b || decide (ttW l ≠ 0)) = b) := by show _ = _; simp [he]
    rw [he]
    clear he
    go_wp2
    go_ret
    exact ⟨rfl, by rw [HB.out]; exact H2.out.put0, HO.out.set _ _⟩
  · have he2 : ¬ (((ttW l : Nat) : Int) = 0) := by omega
    have he3 : (((ttW l : Nat) : Int) != 0) = true := by simp; omega
    have HB : Hid ((b || decide (ttW l ≠ 0)) = true) := by show _ = _; simp [he]
    clear he
    go_wp2
    go_ret
    exact ⟨rfl, by rw [HB.out]; exact H2.out.put0.put1, (HO.out.set _ _).set _ _⟩
/-- Whether what was taken as something told is too great. -/
def bgX (l : List UInt8) : Bool := decide (255 < tnN l) || decide (32 < (ttT (tnR l)).length)
def bgF (l : List UInt8) (b : Bool) : Bool := if bgX l = true then true else (b || decide (tnW l ≠ 0)) || decide (ttW (tnR l) ≠ 0)
def BgIs (l : List UInt8) (e : Ending) : Prop := e = .returned (if bgX l = true then .agg #[.int .i64 0, .string ⟨#[]⟩] else .agg #[.int .i64 (tnN l : Nat), .string (bs (ttT (tnR l)))])
set_option maxRecDepth 100000 in
set_option maxHeartbeats 2000000 in
theorem bag_told (g : Nat) (l : List UInt8) (b : Bool) (w : World) (h : Tk w g l b) (hl : l.length ≤ maxLen) :
    Calls Try.prog 44 #[.pointer (some ⟨g, 0, none⟩)] w fun en w' => BgIs l en ∧ Tk w' g (ttR (tnR l)) (bgF l b) ∧ Only g w w' := by
  have K1 := Lib.hid (fun z c (hz : Tk z g l c) => bag_number g l c z hz hl)
  have K2 := Lib.hid (fun z c (hz : Tk z g (tnR l) c) => bag_text g (tnR l) c z hz (Nat.le_trans (tnR_length l) hl))
  have hlt := h.lt
  have ha : Below w.heap.size w (w.alloc (.cells #[.int .i64 0, .string ⟨#[]⟩] 44)) := (Below.refl _ _).alloc (Nat.le_refl _) _
  have HK0 := Lib.hid (h.below ha hlt)
  have HO0 := Lib.hid (Only.of_below (g := g) ha)
  have HR0 : Hid (Bxn (w.alloc (.cells #[.int .i64 0, .string ⟨#[]⟩] 44)) w.heap.size [.int .i64 0, .string ⟨#[]⟩]) := Bxn.made w _ _
  have hgr : w.heap.size ≠ g := by omega
  have HG := Lib.hid hgr
  have HLT := Lib.hid hlt
  have hx1 : bgX l = true → BgIs l (.returned (.agg #[.int .i64 0, .string ⟨#[]⟩])) ∧ bgF l b = true := fun h => by unfold BgIs bgF; rw [h]; exact ⟨rfl, rfl⟩
  have hx2 : bgX l = false → BgIs l (.returned (.agg #[.int .i64 (tnN l : Nat), .string (bs (ttT (tnR l)))])) ∧ bgF l b = ((b || decide (tnW l ≠ 0)) || decide (ttW (tnR l) ≠ 0)) := fun h => by unfold BgIs bgF; rw [h]; exact ⟨rfl, rfl⟩
  have hX : bgX l = (decide (255 < tnN l) || decide (32 < (bs (ttT (tnR l))).size)) := by rw [bs_size]; rfl
  rw [hX] at hx1 hx2
  have HX1 := Lib.hid hx1
  have HX2 := Lib.hid hx2
  have hn := tnN_lt l
  clear h ha hl hlt hgr hx1 hx2 hX
  generalize bgF l b = bf at *
  generalize ttR (tnR l) = lr at *
  generalize decide (ttW (tnR l) ≠ 0) = x2 at *
  generalize decide (tnW l ≠ 0) = x1 at *
  generalize bs (ttT (tnR l)) = q at *
  generalize tnN l = n at *
  go_enter Try.func44, Try.ntmps44
  go_wp2_with fail
  refine (K1.out _ _ HK0.out).mono ?_
  rintro e w1 ⟨rfl, h1, ho1⟩
  have HK1 := Lib.hid h1
  have HO1 := Lib.hid (HO0.out.trans ho1)
  have HR1 := Lib.hid (HR0.out.only ho1 HG.out)
  clear h1 ho1
  go_wp2_with fail
  refine (K2.out _ _ HK1.out).mono ?_
  rintro e w2 ⟨rfl, h2, ho2⟩
  have ha : Below w2.heap.size w2 (w2.alloc (.cells #[.int .i64 0, .string q] 44)) := (Below.refl _ _).alloc (Nat.le_refl _) _
  have HK2 := Lib.hid (h2.below ha h2.lt)
  have ho3 := HO1.out.trans ho2
  have HO2 := Lib.hid (ho3.trans (Only.of_below (g := g) ha))
  have HR2 := Lib.hid ((HR1.out.only ho2 HG.out).below ha)
  have HT2 := Lib.hid (Bx2.made w2 (.int .i64 0) (.string q) 44)
  have hz : w.heap.size < w2.heap.size := by
    have := ho3.size
    have := (HR1.out.only ho2 HG.out).lt
    omega
  clear h2 ho2 ho3 ha
  go_upto_region 3 with fail
  generalize w2.alloc (.cells #[.int .i64 0, .string q] 44) = W at *
  generalize w2.heap.size = N at *
  obtain ⟨c0, c1, f0, f1⟩ := HK2.out.cells
  obtain ⟨d0, d1⟩ := HT2.out.cells
  obtain ⟨g0, g1⟩ := HT2.out.fz
  have r0 : W.cell? ⟨w.heap.size, 0, none⟩ = some (.int .i64 0) := HR2.out.cell 0
  have r1 : W.cell? ⟨w.heap.size, 1, none⟩ = some (.string ⟨#[]⟩) := HR2.out.cell 1
  have e0 := HR2.out.fz 0
  have e1 := HR2.out.fz 1
  have hgn : ¬ g = w.heap.size := HG.out.symm
  have hgm : ¬ w.heap.size = g := HG.out
  have hnn : ¬ N = w.heap.size := by omega
  have hng : ¬ N = g := by have := HLT.out; omega
  have HNE : Hid (N ≠ g ∧ N ≠ w.heap.size) := ⟨by have := HLT.out; omega, by omega⟩
  by_cases h1 : 255 < n
  · have m1 : (255 : Int) < ((n : Nat) : Int) := by omega
    have HX := Lib.hid (HX1.out (by simp [h1]))
    clear h1
    go_wp2
    refine bodyPost_bx (ty := 44) rfl w.heap.size [.int .i64 0, .string ⟨#[]⟩] _ rfl rfl ?_ Try.underlying44 rfl rfl ?_
    case refine_1 => exact ((HR2.out.apart HG.out.symm 1 _).set 0 _).set 1 _
    case refine_2 =>
      rw [HX.out.2]
      exact ⟨HX.out.1, ((HK2.out.put1).far HG.out.symm 0 _).far HG.out.symm 1 _, ((HO2.out.set _ _).put2 (Nat.le_refl _) 0 _).put2 (Nat.le_refl _) 1 _⟩
  · have m1 : ((n : Nat) : Int) ≤ 255 := by omega
    by_cases h2 : 32 < q.size
    · have m2 : decide (32 < q.size) = true := decide_eq_true h2
      have m3 : (32 : Int) < ((q.size : Nat) : Int) := by omega
      have HX := Lib.hid (HX1.out (by simp [h2]))
      clear h1 h2
      go_wp2
      refine bodyPost_bx (ty := 44) rfl w.heap.size [.int .i64 0, .string ⟨#[]⟩] _ rfl rfl ?_ Try.underlying44 rfl rfl ?_
      case refine_1 => exact ((HR2.out.apart HG.out.symm 1 _).set 0 _).set 1 _
      case refine_2 =>
        rw [HX.out.2]
        exact ⟨HX.out.1, ((HK2.out.put1).far HG.out.symm 0 _).far HG.out.symm 1 _, ((HO2.out.set _ _).put2 (Nat.le_refl _) 0 _).put2 (Nat.le_refl _) 1 _⟩
    · have m3 : ¬ (32 : Int) < ((q.size : Nat) : Int) := by omega
      have m4 : decide (32 < q.size) = false := decide_eq_false h2
      have m5 : decide ((32 : Int) < ((q.size : Nat) : Int)) = false := decide_eq_false m3
      have HX := Lib.hid (HX2.out (by simp [h1, h2]))
      have tn : IntKind.i64.wrap ((n : Nat) : Int) = ((n : Nat) : Int) := by rw [IntKind.wrap_i64]; omega
      clear h1 h2
      go_wp2
      refine bodyPost_bx (ty := 44) rfl w.heap.size [.int .i64 (n : Nat), .string q] _ rfl rfl ?_ Try.underlying44 rfl rfl ?_
      case refine_1 => exact ((HR2.out.apart HNE.out.2 0 _).set 0 _).set 1 _
      case refine_2 =>
        rw [HX.out.2]
        exact ⟨HX.out.1, ((HK2.out.far HNE.out.1.symm 0 _).far HG.out.symm 0 _).far HG.out.symm 1 _, ((HO2.out.put2 (by omega) 0 _).put2 (Nat.le_refl _) 0 _).put2 (Nat.le_refl _) 1 _⟩
end Hd
end Go.Proofs.Ythlchdlgafincaa
