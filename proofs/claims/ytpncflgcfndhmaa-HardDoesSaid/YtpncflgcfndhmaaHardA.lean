/-
  Merged: HardPart, HardCode, HardArg.
-/
import Derived.Test.YtpncflgcfndhmaaPackTakeNum
import Derived.Test.YtpncflgcfndhmaaPackText
import Derived.Test.YtpncflgcfndhmaaPackTakeFr
import Derived.Test.YtpncflgcfndhmaaPackBackMath
import Derived.Laws.ResultCell
import Derived.Test.YtpncflgcfndhmaaPackFrame
import Derived.Deep.RegionHeld3
import Derived.ProofKit
import Derived.OpenShut
/- A TAKER OF PARTS: parts.Of, Framed, Number, Upto, Done. -/
namespace Go.Proofs.Ytpncflgcfndhmaa
open Go.RowKit
namespace Hd
open PM
/-- Block g is a taker: the bytes l are left; whether something was wrong. -/
def Tk (w : World) (g : Nat) (l : List UInt8) (b : Bool) : Prop := ∃ T, w.heap[g]? = some (.cells #[.string (bs l), .bool b] T (0, 0))
theorem Tk.cells {w : World} {g : Nat} {l : List UInt8} {b : Bool} (h : Tk w g l b) : w.cell? ⟨g, 0, none⟩ = some (.string (bs l)) ∧ w.cell? ⟨g, 1, none⟩ = some (.bool b) ∧ w.frozen? ⟨g, 0, none⟩ = false ∧ w.frozen? ⟨g, 1, none⟩ = false := by
  obtain ⟨T, h⟩ := h
  refine ⟨?_, ?_, ?_, ?_⟩ <;> simp [World.cell?, World.frozen?, h]
theorem Tk.lt {w : World} {g : Nat} {l : List UInt8} {b : Bool} (h : Tk w g l b) : g < w.heap.size := by
  rcases Nat.lt_or_ge g w.heap.size with hlt | hge
  · exact hlt
  · obtain ⟨T, h⟩ := h; rw [Array.getElem?_eq_none hge] at h; cases h
theorem Tk.set {w : World} {g : Nat} {l m : List UInt8} {b c : Bool} (h : Tk w g l b) : Tk ((w.setCell ⟨g, 0, none⟩ (.string (bs m))).setCell ⟨g, 1, none⟩ (.bool c)) g m c := by
  obtain ⟨T, h⟩ := h
  exact ⟨T, by simp [World.setCell, Array.getElem?_modify, h]⟩
theorem Tk.below {w w' : World} {B g : Nat} {l : List UInt8} {b : Bool} (h : Tk w g l b) (hb : Below B w w') (hg : g < B) : Tk w' g l b := h.imp fun _ h => (hb.block g hg).trans h
theorem Tk.made (T : TypeId) (w : World) (l : List UInt8) (b : Bool) : Tk (w.alloc (.cells #[.string (bs l), .bool b] T)) w.heap.size l b := ⟨T, heap_alloc_new w _⟩
/-- Only block g, and what is new, has turned. -/
def Only (g : Nat) (w w' : World) : Prop := w.grownBy w' (some g)
theorem Only.refl (g : Nat) (w : World) : Only g w w := ⟨rfl, rfl, rfl, Nat.le_refl _, fun _ _ _ => rfl⟩
theorem Only.of_below {g : Nat} {w w' : World} (h : Below w.heap.size w w') : Only g w w' := ⟨h.os, h.tape, h.output, h.size, fun i hi _ => h.block i hi⟩
theorem Only.set {g : Nat} {a w : World} (h : Only g a w) (o : Nat) (u : Value) : Only g a (w.setCell ⟨g, o, none⟩ u) :=
  ⟨h.os, h.tape, h.output, by simpa [World.setCell] using h.size, fun i hi hne => (Below.heap_setCell w ⟨g, o, none⟩ u i (by rintro rfl; exact hne rfl)).trans (h.block i hi hne)⟩
theorem Only.trans {g : Nat} {a b c : World} (h : Only g a b) (k : Only g b c) : Only g a c :=
  ⟨k.os.trans h.os, k.tape.trans h.tape, k.output.trans h.output, Nat.le_trans h.size k.size, fun i hi hne => (k.block i (Nat.lt_of_lt_of_le hi h.size) hne).trans (h.block i hi hne)⟩
theorem Only.below {g B : Nat} {w w' : World} (h : Only g w w') (hB : B ≤ w.heap.size) (hg : B ≤ g) : Below B w w' := (Below.refl B w).grown h hB (fun k e => by injection e with e; omega)

set_option maxHeartbeats 400000 in
theorem goOn (g : Nat) (l m : List UInt8) (b : Bool) (e : Nat) (w : World) (h : Tk w g l b) :
    Calls Try.prog 61 #[.pointer (some ⟨g, 0, none⟩), .string (bs m), .int .i64 (e : Nat)] w fun en w' => en = .returned (.tuple #[]) ∧ Tk w' g m (decide (e ≠ 0)) ∧ Only g w w' := by
  obtain ⟨c0, c1, f0, f1⟩ := h.cells
  have H := Lib.hid h
  clear h
  by_cases he : e = 0
  · subst he
    go_enter Try.func61, Try.ntmps61
    go_wp2
    go_end0
    exact ⟨rfl, H.out.set, ((Only.refl g _).set _ _).set _ _⟩
  · have he2 : ¬ ((e : Int) = 0) := by omega
    have he3 : ((e : Int) != 0) = true := by simp; omega
    have hd : decide (e ≠ 0) = true := by simpa using he
    have HD := Lib.hid hd
    clear he hd
    go_enter Try.func61, Try.ntmps61
    go_wp2
    go_end0
    exact ⟨rfl, by rw [HD.out]; exact H.out.set, ((Only.refl g _).set _ _).set _ _⟩
set_option maxHeartbeats 400000 in
theorem number_part (g : Nat) (l : List UInt8) (b : Bool) (w : World) (h : Tk w g l b) (hl : l.length ≤ maxLen) :
    Calls Try.prog 35 #[.pointer (some ⟨g, 0, none⟩)] w fun en w' => en = .returned (.int .u64 (tnN l : Nat)) ∧ Tk w' g (tnR l) (decide (tnW l ≠ 0)) ∧ Only g w w' := by
  obtain ⟨c0, c1, f0, f1⟩ := h.cells
  have H := Lib.hid h
  have hlt := h.lt
  have HT := PackTakeNum.take_own (bs l) w (by rw [bs_size]; exact hl)
  unfold PackTakeNum.Took at HT
  rw [bs_data] at HT
  have H1 := Lib.hid HT
  clear h HT hl
  go_enter Try.func35, Try.ntmps35
  go_wp2_with fail
  refine H1.out.mono ?_
  rintro en w1 ⟨rfl, hb⟩
  have H2 := Lib.hid (H.out.below hb hlt)
  have HO := Lib.hid (Only.of_below (g := g) hb)
  clear hb
  go_wp2_with fail
  refine (goOn g l (tnR l) b (tnW l) _ H2.out).mono ?_
  rintro en w2 ⟨rfl, h3, ho⟩
  have H3 := Lib.hid h3
  have HO2 := Lib.hid (HO.out.trans ho)
  clear h3 ho
  go_wp2
  go_ret
  exact ⟨rfl, H3.out, HO2.out⟩
theorem one_result {fn : Func} {p : Tmp} {ty : TypeId} (h : fn.results = #[.cell p ty]) (tmps : Array Value) (P : Program) (w : World) :
    (results fn tmps).run P w = ((asAddr (tmps.getD p undef)).run P w).andThen fun a w₁ => (loadVar ty a).run P w₁ := by
  simp [results, h]
theorem load_taker (w : World) (B : Nat) (s : ByteArray) (b : Bool) (h0 : w.cell? ⟨B, 0, none⟩ = some (.string s)) (h1 : w.cell? ⟨B, 1, none⟩ = some (.bool b)) :
    (loadVar 65 ⟨B, 0, none⟩).run Try.prog w = .ok (.agg #[.string s, .bool b]) w := by
  have a := Try.isAgg65 w
  have c := Try.sizeOf65 w
  go_simp
theorem load_hard (w : World) (B : Nat) (t v : Int) (h0 : w.cell? ⟨B, 0, none⟩ = some (.int .u64 t)) (h1 : w.cell? ⟨B, 1, none⟩ = some (.int .i64 v)) :
    (loadVar 27 ⟨B, 0, none⟩).run Try.prog w = .ok (.agg #[.int .u64 t, .int .i64 v]) w := by
  have a := Try.isAgg27 w
  have c := Try.sizeOf27 w
  go_simp
theorem bodyPost_taker {fn : Func} {p : Tmp} (h : fn.results = #[.cell p 65]) {R : Ending → World → Prop} {a : Act} {w : World} (B : Nat) (s : ByteArray) (b : Bool) (hd : a.defers = [])
    (hp : a.tmps.getD p undef = .pointer (some ⟨B, 0, none⟩)) (h0 : w.cell? ⟨B, 0, none⟩ = some (.string s)) (h1 : w.cell? ⟨B, 1, none⟩ = some (.bool b))
    (hR : R (.returned (.agg #[.string s, .bool b])) w) : bodyPost Try.prog fn R .ret a w := by
  refine bodyPost_ret ?_ hd hR
  rw [one_result h, hp]
  have := load_taker w B s b h0 h1
  simp [asAddr, this, Result.andThen]
theorem bodyPost_hard {fn : Func} {p u : Tmp} (h : fn.results = #[.cell p 27, .tmp u]) {R : Ending → World → Prop} {a : Act} {w : World} (B : Nat) (t v : Int) (hd : a.defers = [])
    (hp : a.tmps.getD p undef = .pointer (some ⟨B, 0, none⟩)) (h0 : w.cell? ⟨B, 0, none⟩ = some (.int .u64 t)) (h1 : w.cell? ⟨B, 1, none⟩ = some (.int .i64 v))
    (hR : R (.returned (.tuple #[.agg #[.int .u64 t, .int .i64 v], a.tmps.getD u undef])) w) : bodyPost Try.prog fn R .ret a w := by
  refine bodyPost_ret ?_ hd hR
  rw [results_cell_tmp h, hp]
  have := load_hard w B t v h0 h1
  simp [asAddr, this, Result.andThen]
set_option maxHeartbeats 400000 in
theorem of_any (s : ByteArray) (w : World) : Calls Try.prog 59 #[.string s] w fun e w' => e = .returned (.agg #[.string s, .bool false]) ∧ Below w.heap.size w w' := by
  go_enter Try.func59, Try.ntmps59
  go_wp2
  refine bodyPost_taker rfl w.heap.size s false rfl rfl ?_ ?_ ?_
  case refine_1 => go_simp
  case refine_2 => go_simp
  case refine_3 => exact ⟨rfl, (Below.refl _ _).alloc (Nat.le_refl _) _⟩
/-- What a frame that is all of some bytes holds; whether it is none. -/
def fmL (l : List UInt8) : List UInt8 := if tfW l = 0 then (if tfR l = [] then tfP l else []) else []
def fmB (l : List UInt8) : Bool := if tfW l = 0 then (if tfR l = [] then false else true) else true
theorem fm_bad (l : List UInt8) (h : tfW l ≠ 0) : fmL l = [] ∧ fmB l = true := by unfold fmL fmB; rw [if_neg h, if_neg h]; exact ⟨rfl, rfl⟩
theorem fm_more (l : List UInt8) (h : tfW l = 0) (h2 : tfR l ≠ []) : fmL l = [] ∧ fmB l = true := by unfold fmL fmB; rw [if_pos h, if_pos h, if_neg h2, if_neg h2]; exact ⟨rfl, rfl⟩
theorem fm_ok (l : List UInt8) (h : tfW l = 0) (h2 : tfR l = []) : fmL l = tfP l ∧ fmB l = false := by unfold fmL fmB; rw [if_pos h, if_pos h, if_pos h2, if_pos h2]; exact ⟨rfl, rfl⟩
theorem bs_nil (l : List UInt8) : (bs l).toList = [] ↔ l = [] := by
  rw [ByteArray.toList_eq, bs_data]
def FramedIs (l : List UInt8) (e : Ending) : Prop := e = .returned (.agg #[.string (bs (fmL l)), .bool (fmB l)])
theorem FramedIs.bad {l : List UInt8} (h : fmL l = [] ∧ fmB l = true) : FramedIs l (.returned (.agg #[.string ⟨#[]⟩, .bool true])) := by unfold FramedIs; rw [h.1, h.2]; rfl
theorem FramedIs.ok {l : List UInt8} (h : fmL l = tfP l ∧ fmB l = false) : FramedIs l (.returned (.agg #[.string (bs (tfP l)), .bool false])) := by unfold FramedIs; rw [h.1, h.2]
set_option maxHeartbeats 800000 in
theorem framed_any (s : ByteArray) (w : World) (hs : s.size ≤ maxLen) : Calls Try.prog 34 #[.string s] w fun e w' => FramedIs s.data.toList e ∧ Below w.heap.size w w' := by
  have HT := fun w => PackTakeFr.takeFrame_own s w hs
  unfold PackTakeFr.TookF at HT
  by_cases h0 : tfW s.data.toList = 0
  · by_cases h1 : tfR s.data.toList = []
    · have HF := Lib.hid (FramedIs.ok (fm_ok _ h0 h1))
      rw [h0, h1] at HT
      have H1 := Lib.hid HT
      have hn : (bs ([] : List UInt8)).toList = [] := (bs_nil _).2 rfl
      clear HT h0 h1
      generalize bs (tfP s.data.toList) = p at *
      go_enter Try.func34, Try.ntmps34
      go_wp2_with fail
      refine (H1.out _).mono ?_
      rintro e w1 ⟨rfl, hb⟩
      have d0 : w1.cell? ⟨w.heap.size, 0, none⟩ = some (.string ⟨#[]⟩) := by rw [hb.cell (by simp)]; simp [go_sem]
      have d1 : w1.cell? ⟨w.heap.size, 1, none⟩ = some (.bool false) := by rw [hb.cell (by simp)]; simp [go_sem]
      have e0 : w1.frozen? ⟨w.heap.size, 0, none⟩ = false := by rw [hb.frozen (by simp)]; simp [go_sem]
      have e1 : w1.frozen? ⟨w.heap.size, 1, none⟩ = false := by rw [hb.frozen (by simp)]; simp [go_sem]
      have hz := hb.size
      simp at hz
      have HB := Lib.hid (((Below.refl w.heap.size w).alloc (Nat.le_refl _) _).trans (hb.mono (by simp)))
      clear hb
      go_wp2_with fail
      refine (of_any _ _).mono ?_
      rintro e w2 ⟨rfl, hb⟩
      have k0 := (hb.cell (p := ⟨w.heap.size, 0, none⟩) (by show w.heap.size < _; omega)).trans d0
      have k1 := (hb.cell (p := ⟨w.heap.size, 1, none⟩) (by show w.heap.size < _; omega)).trans d1
      have l0 := (hb.frozen (p := ⟨w.heap.size, 0, none⟩) (by show w.heap.size < _; omega)).trans e0
      have l1 := (hb.frozen (p := ⟨w.heap.size, 1, none⟩) (by show w.heap.size < _; omega)).trans e1
      have HB2 := Lib.hid (HB.out.trans (hb.mono (by omega)))
      clear hb
      go_wp2
      refine bodyPost_taker rfl w.heap.size p false rfl rfl ?_ ?_ ?_
      case refine_1 => go_simp
      case refine_2 => go_simp
      case refine_3 => exact ⟨HF.out, (HB2.out.setCell (Nat.le_refl _) _).setCell (Nat.le_refl _) _⟩
    · have HF := Lib.hid (FramedIs.bad (fm_more _ h0 h1))
      have hn : (bs (tfR s.data.toList)).toList.isEmpty = false := by
        rw [← Bool.not_eq_true, List.isEmpty_iff]
        exact fun h => h1 ((bs_nil _).1 h)
      have hn2 : ¬ (bs (tfR s.data.toList)).toList = [] := fun h => h1 ((bs_nil _).1 h)
      rw [h0] at HT
      have H1 := Lib.hid HT
      clear HT h0 h1
      generalize bs (tfP s.data.toList) = p at *
      generalize bs (tfR s.data.toList) = q at *
      go_enter Try.func34, Try.ntmps34
      go_wp2_with fail
      refine (H1.out _).mono ?_
      rintro e w1 ⟨rfl, hb⟩
      have d0 : w1.cell? ⟨w.heap.size, 0, none⟩ = some (.string ⟨#[]⟩) := by rw [hb.cell (by simp)]; simp [go_sem]
      have d1 : w1.cell? ⟨w.heap.size, 1, none⟩ = some (.bool false) := by rw [hb.cell (by simp)]; simp [go_sem]
      have e0 : w1.frozen? ⟨w.heap.size, 0, none⟩ = false := by rw [hb.frozen (by simp)]; simp [go_sem]
      have e1 : w1.frozen? ⟨w.heap.size, 1, none⟩ = false := by rw [hb.frozen (by simp)]; simp [go_sem]
      have HB := Lib.hid (((Below.refl w.heap.size w).alloc (Nat.le_refl _) _).trans (hb.mono (by simp)))
      clear hb
      go_wp2
      refine bodyPost_taker rfl w.heap.size ⟨#[]⟩ true rfl rfl ?_ ?_ ?_
      case refine_1 => go_simp
      case refine_2 => go_simp
      case refine_3 => exact ⟨HF.out, (HB.out.setCell (Nat.le_refl _) _).setCell (Nat.le_refl _) _⟩
  · have HF := Lib.hid (FramedIs.bad (fm_bad _ h0))
    have h2 : ¬ ((tfW s.data.toList : Int) = 0) := by omega
    have h3 : (((tfW s.data.toList : Nat) : Int) != 0) = true := by simp; omega
    have H1 := Lib.hid HT
    clear HT h0
    generalize tfW s.data.toList = k at *
    generalize bs (tfP s.data.toList) = p at *
    generalize bs (tfR s.data.toList) = q at *
    go_enter Try.func34, Try.ntmps34
    go_wp2_with fail
    refine (H1.out _).mono ?_
    rintro e w1 ⟨rfl, hb⟩
    have d0 : w1.cell? ⟨w.heap.size, 0, none⟩ = some (.string ⟨#[]⟩) := by rw [hb.cell (by simp)]; simp [go_sem]
    have d1 : w1.cell? ⟨w.heap.size, 1, none⟩ = some (.bool false) := by rw [hb.cell (by simp)]; simp [go_sem]
    have e0 : w1.frozen? ⟨w.heap.size, 0, none⟩ = false := by rw [hb.frozen (by simp)]; simp [go_sem]
    have e1 : w1.frozen? ⟨w.heap.size, 1, none⟩ = false := by rw [hb.frozen (by simp)]; simp [go_sem]
    have HB := Lib.hid (((Below.refl w.heap.size w).alloc (Nat.le_refl _) _).trans (hb.mono (by simp)))
    clear hb
    go_wp2
    refine bodyPost_taker rfl w.heap.size ⟨#[]⟩ true rfl rfl ?_ ?_ ?_
    case refine_1 => go_simp
    case refine_2 => go_simp
    case refine_3 => exact ⟨HF.out, (HB.out.setCell (Nat.le_refl _) _).setCell (Nat.le_refl _) _⟩
/-- What a number that may be at most so much comes to. -/
def upV (m : Nat) (l : List UInt8) : Nat := if m < tnN l then 0 else tnN l
def upR (m : Nat) (l : List UInt8) : List UInt8 := if m < tnN l then [] else tnR l
def upB (m : Nat) (l : List UInt8) : Bool := if m < tnN l then true else decide (tnW l ≠ 0)
theorem upV_le (m : Nat) (l : List UInt8) : upV m l ≤ m := by unfold upV; split <;> omega
theorem upR_length (m : Nat) (l : List UInt8) : (upR m l).length ≤ l.length := by
  unfold upR
  split
  · exact Nat.zero_le _
  · exact tnR_length l
set_option maxHeartbeats 800000 in
theorem upto_part (g : Nat) (l : List UInt8) (b : Bool) (m : Nat) (w : World) (h : Tk w g l b) (hl : l.length ≤ maxLen) :
    Calls Try.prog 36 #[.pointer (some ⟨g, 0, none⟩), .int .u64 (m : Nat)] w fun en w' => en = .returned (.int .u64 (upV m l : Nat)) ∧ Tk w' g (upR m l) (upB m l) ∧ Only g w w' := by
  have H1 := Lib.hid (number_part g l b w h hl)
  by_cases hk : m < tnN l
  · have e1 : upV m l = 0 := by unfold upV; rw [if_pos hk]
    have e2 : upR m l = [] := by unfold upR; rw [if_pos hk]
    have e3 : upB m l = true := by unfold upB; rw [if_pos hk]
    rw [e1, e2, e3]
    have hk2 : (m : Int) < (tnN l : Nat) := by omega
    clear hk e1 e2 e3 h
    go_enter Try.func36, Try.ntmps36
    go_wp2_with fail
    refine H1.out.mono ?_
    rintro en w1 ⟨rfl, h2, ho⟩
    have H2 := Lib.hid h2
    have HO := Lib.hid ho
    clear h2 ho
    go_wp2_with fail
    refine (goOn g _ [] _ 4 _ H2.out).mono ?_
    rintro en w2 ⟨rfl, h3, ho⟩
    have H3 := Lib.hid h3
    have HO2 := Lib.hid (HO.out.trans ho)
    clear h3 ho
    go_wp2
    go_ret
    exact ⟨rfl, H3.out, HO2.out⟩
  · have e1 : upV m l = tnN l := by unfold upV; rw [if_neg hk]
    have e2 : upR m l = tnR l := by unfold upR; rw [if_neg hk]
    have e3 : upB m l = decide (tnW l ≠ 0) := by unfold upB; rw [if_neg hk]
    rw [e1, e2, e3]
    have hk2 : ((tnN l : Nat) : Int) ≤ (m : Int) := by omega
    clear hk e1 e2 e3 h
    go_enter Try.func36, Try.ntmps36
    go_wp2_with fail
    refine H1.out.mono ?_
    rintro en w1 ⟨rfl, h2, ho⟩
    have H2 := Lib.hid h2
    have HO := Lib.hid ho
    clear h2 ho
    go_wp2
    go_ret
    exact ⟨rfl, H2.out, HO.out⟩
set_option maxHeartbeats 400000 in
theorem done_part (g : Nat) (l : List UInt8) (b : Bool) (w : World) (h : Tk w g l b) :
    Calls Try.prog 37 #[.pointer (some ⟨g, 0, none⟩)] w fun en w' => en = .returned (.bool (!b && l.isEmpty)) ∧ w = w' := by
  obtain ⟨c0, c1, f0, f1⟩ := h.cells
  clear h
  cases b
  · by_cases hn : l = []
    · subst hn
      have e0 : (bs ([] : List UInt8)).toList = [] := (bs_nil _).2 rfl
      go_enter Try.func37, Try.ntmps37
      go_wp2
      go_ret
      exact ⟨rfl, rfl⟩
    · have e0 : (bs l).toList.isEmpty = false := by
        rw [← Bool.not_eq_true, List.isEmpty_iff]
        exact fun h => hn ((bs_nil _).1 h)
      have e1 : ¬ (bs l).toList = [] := fun h => hn ((bs_nil _).1 h)
      have HN : Hid (l.isEmpty = false) := by
        show _ = _
        rw [← Bool.not_eq_true, List.isEmpty_iff]; exact hn
      clear hn
      go_enter Try.func37, Try.ntmps37
      go_wp2
      go_ret
      exact ⟨by rw [HN.out]; rfl, rfl⟩
  · go_enter Try.func37, Try.ntmps37
    go_wp2
    go_ret
    exact ⟨rfl, rfl⟩
end Hd
end Go.Proofs.Ytpncflgcfndhmaa

/- THE BYTES of a term and a vote: hard.Check, hard.encode, hard.decode. -/
namespace Go.Proofs.Ytpncflgcfndhmaa
open Go.RowKit
namespace Hd
open PM
def chkH (v : Int) : Nat := if v < 0 then 1 else if 7 < v then 1 else 0
set_option maxHeartbeats 400000 in
theorem check_any (t v : Int) (w : World) : Calls Try.prog 15 #[.agg #[.int .u64 t, .int .i64 v]] w fun e w' => e = .returned (.int .i64 (chkH v : Nat)) ∧ Below w.heap.size w w' := by
  have HB := Lib.hid ((Below.refl w.heap.size w).alloc (Nat.le_refl _) (.cells #[.int .u64 t, .int .i64 v] 27))
  by_cases h0 : v < 0
  · have HN := Lib.hid (show chkH v = 1 by unfold chkH; rw [if_pos h0])
    go_enter Try.func15, Try.ntmps15
    go_wp2
    go_ret
    exact ⟨by rw [HN.out]; rfl, HB.out⟩
  · have h0' : decide (v < 0) = false := by simpa using h0
    by_cases h1 : 7 < v
    · have HN := Lib.hid (show chkH v = 1 by unfold chkH; rw [if_neg h0, if_pos h1])
      go_enter Try.func15, Try.ntmps15
      go_wp2
      go_ret
      exact ⟨by rw [HN.out]; rfl, HB.out⟩
    · have h1' : decide (7 < v) = false := by simpa using h1
      have HN := Lib.hid (show chkH v = 0 by unfold chkH; rw [if_neg h0, if_neg h1])
      go_enter Try.func15, Try.ntmps15
      go_wp2
      go_ret
      exact ⟨by rw [HN.out]; rfl, HB.out⟩
/-- The bytes of a term and a vote, as the file has them. -/
def encL (t v : Nat) : List UInt8 := frm (num t ++ num v)
theorem num_len (n : Nat) (h : n < 2 ^ 64) : (num n).length ≤ 9 := by rw [num_length]; have := (nsz_spec n h).1; omega
theorem encL_len (t v : Nat) (ht : t < 2 ^ 64) (hv : v < 2 ^ 64) : (encL t v).length ≤ 24 := by
  unfold encL
  rw [frm_length, List.length_append]
  have := num_len t ht
  have := num_len v hv
  omega
set_option maxRecDepth 100000 in
set_option maxHeartbeats 1000000 in
theorem encode_any (t v : Nat) (ht : t < 2 ^ 64) (hv : v < 2 ^ 63) (w : World) : Calls Try.prog 27 #[.agg #[.int .u64 (t : Nat), .int .i64 (v : Nat)]] w fun e w' => e = .returned (.string (bs (encL t v))) ∧ Below w.heap.size w w' := by
  have hv2 : v < 2 ^ 64 := by omega
  have t0 : IntKind.u64.wrap (v : Int) = (v : Int) := by rw [IntKind.wrap_u64]; omega
  have G1 := fun w => PackBytes.number_own t w ht
  have G2 := fun w => PackBytes.number_own v w hv2
  have hl : (num t ++ num v).length ≤ 18 := by
    rw [List.length_append]
    have := num_len t ht
    have := num_len v hv2
    omega
  have HF := fun w => PackFrame.frame_own (bs (num t ++ num v)) w (by rw [bs_size]; unfold maxLen; omega)
  unfold PackFrame.Framed at HF
  have e1 : PackFrame.frS (bs (num t ++ num v)) = bs (encL t v) := by unfold PackFrame.frS; rw [bs_size, if_neg (by omega), bs_data]; rfl
  have e2 : PackFrame.frW (bs (num t ++ num v)) = 0 := by unfold PackFrame.frW; rw [bs_size, if_neg (by omega)]
  rw [e1, e2] at HF
  rw [← bs_append] at HF
  have hsz : (bs (num t)).size + (bs (num v)).size ≤ 9223372036854775807 := by rw [bs_size, bs_size]; rw [List.length_append] at hl; omega
  have hsz2 : ¬ (9223372036854775807 < (bs (num t)).size + (bs (num v)).size) := by omega
  have hsz3 : (bs (num t)).size + (bs (num v)).size ≤ maxLen := by unfold maxLen; omega
  clear e1 e2 hl
  generalize bs (num t) = sa at *
  generalize bs (num v) = sb at *
  generalize bs (encL t v) = sc at *
  have KB : Hid (∀ z, (z.cell? ⟨w.heap.size, 0, none⟩ = some (.int .u64 (t : Nat)) ∧ z.cell? ⟨w.heap.size, 1, none⟩ = some (.int .i64 (v : Nat)) ∧ Hid (Below w.heap.size w z ∧ w.heap.size + 1 ≤ z.heap.size)) → Below w.heap.size w z) := fun z h => h.2.2.out.1
  have L0 : Hid (∀ z, (z.cell? ⟨w.heap.size, 0, none⟩ = some (.int .u64 (t : Nat)) ∧ z.cell? ⟨w.heap.size, 1, none⟩ = some (.int .i64 (v : Nat)) ∧ Hid (Below w.heap.size w z ∧ w.heap.size + 1 ≤ z.heap.size)) → ∀ z', Below z.heap.size z z' → (z'.cell? ⟨w.heap.size, 0, none⟩ = some (.int .u64 (t : Nat)) ∧ z'.cell? ⟨w.heap.size, 1, none⟩ = some (.int .i64 (v : Nat)) ∧ Hid (Below w.heap.size w z' ∧ w.heap.size + 1 ≤ z'.heap.size))) := by
    intro z h z' hb
    obtain ⟨a0, a1, hS⟩ := h
    have hz := hS.out.2
    exact ⟨(hb.cell (by show w.heap.size < _; omega)).trans a0, (hb.cell (by show w.heap.size < _; omega)).trans a1, hS.out.1.trans (hb.mono (by omega)), by have := hb.size; omega⟩
  have K1 : Hid (∀ z, (z.cell? ⟨w.heap.size, 0, none⟩ = some (.int .u64 (t : Nat)) ∧ z.cell? ⟨w.heap.size, 1, none⟩ = some (.int .i64 (v : Nat)) ∧ Hid (Below w.heap.size w z ∧ w.heap.size + 1 ≤ z.heap.size)) → Calls Try.prog 51 #[.int .u64 (t : Nat)] z fun e z' => e = .returned (.string sa) ∧ (z'.cell? ⟨w.heap.size, 0, none⟩ = some (.int .u64 (t : Nat)) ∧ z'.cell? ⟨w.heap.size, 1, none⟩ = some (.int .i64 (v : Nat)) ∧ Hid (Below w.heap.size w z' ∧ w.heap.size + 1 ≤ z'.heap.size))) := fun z h => (G1 z).mono fun e z' ⟨he, hb⟩ => ⟨he, L0.out z h z' hb⟩
  have K2 : Hid (∀ z, (z.cell? ⟨w.heap.size, 0, none⟩ = some (.int .u64 (t : Nat)) ∧ z.cell? ⟨w.heap.size, 1, none⟩ = some (.int .i64 (v : Nat)) ∧ Hid (Below w.heap.size w z ∧ w.heap.size + 1 ≤ z.heap.size)) → Calls Try.prog 51 #[.int .u64 (v : Nat)] z fun e z' => e = .returned (.string sb) ∧ (z'.cell? ⟨w.heap.size, 0, none⟩ = some (.int .u64 (t : Nat)) ∧ z'.cell? ⟨w.heap.size, 1, none⟩ = some (.int .i64 (v : Nat)) ∧ Hid (Below w.heap.size w z' ∧ w.heap.size + 1 ≤ z'.heap.size))) := fun z h => (G2 z).mono fun e z' ⟨he, hb⟩ => ⟨he, L0.out z h z' hb⟩
  have K3 : Hid (∀ z, (z.cell? ⟨w.heap.size, 0, none⟩ = some (.int .u64 (t : Nat)) ∧ z.cell? ⟨w.heap.size, 1, none⟩ = some (.int .i64 (v : Nat)) ∧ Hid (Below w.heap.size w z ∧ w.heap.size + 1 ≤ z.heap.size)) → Calls Try.prog 50 #[.string (sa ++ sb)] z fun e z' => e = .returned (.tuple #[.string sc, .int .i64 (0 : Nat)]) ∧ (z'.cell? ⟨w.heap.size, 0, none⟩ = some (.int .u64 (t : Nat)) ∧ z'.cell? ⟨w.heap.size, 1, none⟩ = some (.int .i64 (v : Nat)) ∧ Hid (Below w.heap.size w z' ∧ w.heap.size + 1 ≤ z'.heap.size))) := fun z h => (HF z).mono fun e z' ⟨he, hb⟩ => ⟨he, L0.out z h z' hb⟩
  have KD : Hid ((((w.alloc (.cells #[.int .u64 (t : Nat), .int .i64 (v : Nat)] 27)).drew).cell? ⟨w.heap.size, 0, none⟩ = some (.int .u64 (t : Nat)) ∧ ((w.alloc (.cells #[.int .u64 (t : Nat), .int .i64 (v : Nat)] 27)).drew).cell? ⟨w.heap.size, 1, none⟩ = some (.int .i64 (v : Nat)) ∧ Hid (Below w.heap.size w ((w.alloc (.cells #[.int .u64 (t : Nat), .int .i64 (v : Nat)] 27)).drew) ∧ w.heap.size + 1 ≤ ((w.alloc (.cells #[.int .u64 (t : Nat), .int .i64 (v : Nat)] 27)).drew).heap.size))) := by
    refine ⟨by simp [go_sem], by simp [go_sem], ((Below.refl _ _).alloc (Nat.le_refl _) _).drew, by show _ ≤ (w.alloc _).heap.size; simp⟩
  clear G1 G2 HF L0
  go_enter Try.func27, Try.ntmps27
  go_wp2
  go_region_held3 (fun z => z.cell? ⟨w.heap.size, 0, none⟩ = some (.int .u64 (t : Nat)) ∧ z.cell? ⟨w.heap.size, 1, none⟩ = some (.int .i64 (v : Nat)) ∧ Hid (Below w.heap.size w z ∧ w.heap.size + 1 ≤ z.heap.size)) (first | assumption | exact KD.out)
    (first
      | (go_at_call 51; (with_reducible refine (K1.out _ ?_).mono ?_); assumption; rintro e w7 ⟨rfl, hS⟩)
      | (go_at_call 51; (with_reducible refine (K2.out _ ?_).mono ?_); assumption; rintro e w7 ⟨rfl, hS⟩)
      | (go_at_call 50; go_loud ((with_reducible refine (K3.out _ ?_).mono ?_); assumption; rintro e w7 ⟨rfl, hS⟩)))
  all_goals
    go_wp2
    go_ret
    exact ⟨rfl, KB.out _ hS⟩

/-- What the bytes of a file come to: whether they are a term and a vote, and which. -/
def dcOk (l : List UInt8) : Bool := !(upB 7 (tnR (fmL l))) && (upR 7 (tnR (fmL l))).isEmpty
def dcT (l : List UInt8) : Nat := if dcOk l = true then tnN (fmL l) else 0
def dcV (l : List UInt8) : Nat := if dcOk l = true then upV 7 (tnR (fmL l)) else 0
def dcE (l : List UInt8) : Nat := if dcOk l = true then 0 else 4
def DecIs (l : List UInt8) (e : Ending) : Prop := e = .returned (.tuple #[.agg #[.int .u64 (dcT l : Nat), .int .i64 (dcV l : Nat)], .int .i64 (dcE l : Nat)])
theorem DecIs.bad {l : List UInt8} (h : dcOk l = false) : DecIs l (.returned (.tuple #[.agg #[.int .u64 0, .int .i64 0], .int .i64 4])) := by
  unfold DecIs dcT dcV dcE
  rw [h]; rfl
theorem DecIs.ok {l : List UInt8} (h : dcOk l = true) : DecIs l (.returned (.tuple #[.agg #[.int .u64 (tnN (fmL l) : Nat), .int .i64 (upV 7 (tnR (fmL l)) : Nat)], .int .i64 0])) := by
  unfold DecIs dcT dcV dcE
  rw [h]; rfl
theorem tfP_len (l : List UInt8) : (tfP l).length ≤ l.length := by
  unfold tfP
  split
  · rw [List.length_take, List.length_drop]
    exact Nat.le_trans (Nat.min_le_right _ _) (by omega)
  · exact Nat.zero_le _
theorem fmL_len (l : List UInt8) : (fmL l).length ≤ l.length := by
  by_cases h : tfW l = 0
  · by_cases h2 : tfR l = []
    · rw [(fm_ok l h h2).1]; exact tfP_len l
    · rw [(fm_more l h h2).1]; exact Nat.zero_le _
  · rw [(fm_bad l h).1]; exact Nat.zero_le _
theorem enc_back (t v : Nat) (ht : t < 2 ^ 64) (hv : v ≤ 7) : dcOk (encL t v) = true ∧ dcT (encL t v) = t ∧ dcV (encL t v) = v ∧ dcE (encL t v) = 0 := by
  have hl : ¬ 65536 < (num t ++ num v).length := by
    rw [List.length_append]
    have := num_len t ht
    have := num_len v (by omega)
    omega
  have h1 := tf_back (num t ++ num v) [] hl
  rw [List.append_nil] at h1
  have e1 : fmL (encL t v) = num t ++ num v := (fm_ok (encL t v) h1.1 h1.2.2).1.trans h1.2.1
  have h2 := tn_back t ht (num v)
  have h3 := tn_back v (by omega) []
  rw [List.append_nil] at h3
  have e2 : tnR (fmL (encL t v)) = num v := by rw [e1, h2.2.2]
  have e3 : upV 7 (num v) = v := by unfold upV; rw [h3.2.1, if_neg (by omega)]
  have e4 : upB 7 (num v) = false := by unfold upB; rw [h3.2.1, if_neg (by omega), h3.1]; rfl
  have e5 : upR 7 (num v) = [] := by unfold upR; rw [h3.2.1, if_neg (by omega), h3.2.2]
  have hok : dcOk (encL t v) = true := by unfold dcOk; rw [e2, e4, e5]; rfl
  refine ⟨hok, ?_, ?_, ?_⟩
  · unfold dcT; rw [if_pos hok, e1, h2.2.1]
  · unfold dcV; rw [if_pos hok, e2, e3]
  · unfold dcE; rw [if_pos hok]
set_option maxHeartbeats 1000000 in
theorem decode_any (s : ByteArray) (w : World) (hs : s.size ≤ maxLen) : Calls Try.prog 19 #[.string s] w fun e w' => DecIs s.data.toList e ∧ Below w.heap.size w w' := by
  have HFR := Lib.hid (fun w => framed_any s w hs)
  have HLN := Lib.hid (show (fmL s.data.toList).length ≤ maxLen from Nat.le_trans (fmL_len _) hs)
  have HOK : Hid (dcOk s.data.toList = (!(upB 7 (tnR (fmL s.data.toList))) && (upR 7 (tnR (fmL s.data.toList))).isEmpty)) := rfl
  have HGD := Lib.hid (fun h => DecIs.ok (l := s.data.toList) h)
  have HBD := Lib.hid (fun h => DecIs.bad (l := s.data.toList) h)
  unfold FramedIs at HFR
  generalize hf : fmL s.data.toList = l at *
  generalize fmB s.data.toList = b at *
  clear hf
  go_enter Try.func19, Try.ntmps19
  go_wp2_with fail
  refine (HFR.out _).mono ?_
  rintro e w1 ⟨rfl, hb⟩
  have d0 : w1.cell? ⟨w.heap.size, 0, none⟩ = some (.int .u64 0) := by rw [hb.cell (by simp)]; simp [go_sem]
  have d1 : w1.cell? ⟨w.heap.size, 1, none⟩ = some (.int .i64 0) := by rw [hb.cell (by simp)]; simp [go_sem]
  have f0 : w1.frozen? ⟨w.heap.size, 0, none⟩ = false := by rw [hb.frozen (by simp)]; simp [go_sem]
  have f1 : w1.frozen? ⟨w.heap.size, 1, none⟩ = false := by rw [hb.frozen (by simp)]; simp [go_sem]
  have hz := hb.size
  simp at hz
  have HB := Lib.hid (((Below.refl w.heap.size w).alloc (Nat.le_refl _) _).trans (hb.mono (by simp)))
  have HC := Lib.hid (And.intro d0 (And.intro d1 (And.intro f0 f1)))
  clear hb d0 d1 f0 f1
  go_wp2_with fail
  refine (number_part w1.heap.size l b _ (Tk.made _ w1 l b) HLN.out).mono ?_
  rintro e w2 ⟨rfl, h2, ho⟩
  have H2 := Lib.hid h2
  have HO := Lib.hid ho
  clear h2 ho
  go_wp2_with fail
  refine (upto_part w1.heap.size (tnR l) _ 7 _ H2.out (Nat.le_trans (tnR_length l) HLN.out)).mono ?_
  rintro e w3 ⟨rfl, h3, ho⟩
  have H3 := Lib.hid h3
  have HO3 := Lib.hid (HO.out.trans ho)
  clear h3 ho
  go_wp2_with fail
  refine (done_part w1.heap.size _ _ _ H3.out).mono ?_
  rintro e w4 ⟨rfl, rfl⟩
  have HB4 : Hid (Below w1.heap.size w1 w3) := ((Below.refl _ _).alloc (Nat.le_refl _) _).trans (HO3.out.below (by simp) (Nat.le_refl _))
  have hlt : w.heap.size < w1.heap.size := by omega
  obtain ⟨d0, d1, f0, f1⟩ := HC.out
  have k0 := (HB4.out.cell (p := ⟨w.heap.size, 0, none⟩) hlt).trans d0
  have k1 := (HB4.out.cell (p := ⟨w.heap.size, 1, none⟩) hlt).trans d1
  have l0 := (HB4.out.frozen (p := ⟨w.heap.size, 0, none⟩) hlt).trans f0
  have l1 := (HB4.out.frozen (p := ⟨w.heap.size, 1, none⟩) hlt).trans f1
  have HBE := Lib.hid (HB.out.trans (HB4.out.mono (by omega)))
  clear d0 d1 f0 f1 HC
  have HOK2 := Lib.hid HOK.out
  cases hq : (!(upB 7 (tnR l)) && (upR 7 (tnR l)).isEmpty)
  · have HN := Lib.hid (HBD.out (HOK2.out.trans hq))
    clear hq
    go_wp2
    refine bodyPost_hard rfl w.heap.size 0 0 rfl rfl ?_ ?_ ?_
    case refine_1 => go_simp
    case refine_2 => go_simp
    case refine_3 => exact ⟨HN.out, (HBE.out.setCell (Nat.le_refl _) _).setCell (Nat.le_refl _) _⟩
  · have HN := Lib.hid (HGD.out (HOK2.out.trans hq))
    clear hq
    have tv : IntKind.i64.wrap ((upV 7 (tnR l) : Nat) : Int) = ((upV 7 (tnR l) : Nat) : Int) := by have := upV_le 7 (tnR l); rw [IntKind.wrap_i64]; omega
    generalize upV 7 (tnR l) = v at *
    generalize tnN l = t at *
    go_wp2
    refine bodyPost_hard rfl w.heap.size t v rfl rfl ?_ ?_ ?_
    case refine_1 => go_simp
    case refine_2 => go_simp
    case refine_3 => exact ⟨HN.out, (HBE.out.setCell (Nat.le_refl _) _).setCell (Nat.le_refl _) _⟩
end Hd
end Go.Proofs.Ytpncflgcfndhmaa

/- ARGUMENTS: a term and a vote that came in. -/
namespace Go.Proofs.Ytpncflgcfndhmaa
open Go.RowKit Go.WideShapes Go.ChangeShapes
namespace Dk
set_option maxRecDepth 100000 in
theorem hard_of {H : Type} {enc : TypeId × Value → H} {w : World} {v : Value} {d : DataW H} {ps : List MemPlace} {base : Nat}
    (ho : Value.okWide Try.prog w .any base 27 v) (hk : DataW.Trod enc Try.prog w 0 (fun _ => true) true 27 v d ps) :
    ∃ t z : Int, v = .agg #[.int .u64 t, .int .i64 z] ∧ (Lit.int .u64 t).wf = true ∧ (Lit.int .i64 z).wf = true := by
  obtain ⟨cs, rfl, hcs⟩ := okWide_struct Try.underlying27 ho
  obtain ⟨fuel, hf⟩ := hk
  have hu := Try.underlying27
  obtain ⟨xs, m, -, -, hl, hlen, hf⟩ := DataW.trod_struct hu hf
  rcases cs with ⟨l⟩
  match xs, hlen with
  | [y0, y1], _ =>
    have hl2 : l.length = 2 := hl
    match l, hl2 with
    | [c0, c1], _ =>
      have t0 : DataW.trod enc Try.prog w 0 (fun _ => true) true m 25 [c0] = some y0 := hf 0 _ rfl
      have t1 : DataW.trod enc Try.prog w 0 (fun _ => true) true m 3 [c1] = some y1 := hf 1 _ rfl
      obtain ⟨s0, e0, -, z0⟩ := DataW.trod_int Try.underlying25 t0
      obtain ⟨s1, e1, -, z1⟩ := DataW.trod_int Try.underlying3 t1
      cases e0
      cases e1
      exact ⟨s0, s1, rfl, z0, z1⟩
end Dk
end Go.Proofs.Ytpncflgcfndhmaa
