/-
  A TAKER OF PARTS: parts.Of, Framed, Number, Upto, Done.
-/
import Derived.Test.YtjgdmdgiicpemaaPackTakeNum
import Derived.Test.YtjgdmdgiicpemaaPackText
import Derived.Test.YtjgdmdgiicpemaaPackTakeFr
import Derived.Test.YtjgdmdgiicpemaaPackBackMath
import Derived.Laws.ResultCell
namespace Go.Proofs.Ytjgdmdgiicpemaa
open Go.RowKit
namespace Hd
open PM
/-- Block g is a taker: the bytes l are left; whether something was wrong. -/
def Tk (w : World) (g : Nat) (l : List UInt8) (b : Bool) : Prop := ∃ T, w.heap[g]? = some (.cells #[.string (bs l), .bool b] T (0, 0))
theorem Tk.cells {w : World} {g : Nat} {l : List UInt8} {b : Bool} (h : Tk w g l b) : w.cell? ⟨g, 0, none⟩ = some (.string (bs l)) ∧ w.cell? ⟨g, 1, none⟩ = some (.bool b) ∧ w.frozen? ⟨g, 0, none⟩ = false ∧ w.frozen? ⟨g, 1, none⟩ = false := by
  obtain ⟨T, h⟩ := h
  refine ⟨?_, ?_, ?_, ?_⟩ <;> simp [World.cell?, World.frozen?, h]
theorem Tk.lt {w : World} {g : Nat} {l : List UInt8} {b : Bool} (h : Tk w g l b) : g < w.heap.size := by
  rcases Nat.lt_or_ge g w.heap.size with hlt | hge
  · exact hlt
  · obtain ⟨T, h⟩ := h; rw [Array.getElem?_eq_none hge] at h; cases h
theorem Tk.set {w : World} {g : Nat} {l m : List UInt8} {b c : Bool} (h : Tk w g l b) : Tk ((w.setCell ⟨g, 0, none⟩ (.string (bs m))).setCell ⟨g, 1, none⟩ (.bool c)) g m c := by
  obtain ⟨T, h⟩ := h
  exact ⟨T, by simp [World.setCell, Array.getElem?_modify, h]⟩
theorem Tk.below {w w' : World} {B g : Nat} {l : List UInt8} {b : Bool} (h : Tk w g l b) (hb : Below B w w') (hg : g < B) : Tk w' g l b := h.imp fun _ h => (hb.block g hg).trans h
theorem Tk.made (T : TypeId) (w : World) (l : List UInt8) (b : Bool) : Tk (w.alloc (.cells #[.string (bs l), .bool b] T)) w.heap.size l b := ⟨T, heap_alloc_new w _⟩
/-- Only block g, and what is new, has turned. -/
def Only (g : Nat) (w w' : World) : Prop := w.grownBy w' (some g)
theorem Only.refl (g : Nat) (w : World) : Only g w w := ⟨rfl, rfl, rfl, Nat.le_refl _, fun _ _ _ => rfl⟩
theorem Only.of_below {g : Nat} {w w' : World} (h : Below w.heap.size w w') : Only g w w' := ⟨h.os, h.tape, h.output, h.size, fun i hi _ => h.block i hi⟩
theorem Only.set {g : Nat} {a w : World} (h : Only g a w) (o : Nat) (u : Value) : Only g a (w.setCell ⟨g, o, none⟩ u) :=
  ⟨h.os, h.tape, h.output, by simpa [World.setCell] using h.size, fun i hi hne => (Below.heap_setCell w ⟨g, o, none⟩ u i (by rintro rfl; exact hne rfl)).trans (h.block i hi hne)⟩
theorem Only.trans {g : Nat} {a b c : World} (h : Only g a b) (k : Only g b c) : Only g a c :=
  ⟨k.os.trans h.os, k.tape.trans h.tape, k.output.trans h.output, Nat.le_trans h.size k.size, fun i hi hne => (k.block i (Nat.lt_of_lt_of_le hi h.size) hne).trans (h.block i hi hne)⟩
theorem Only.below {g B : Nat} {w w' : World} (h : Only g w w') (hB : B ≤ w.heap.size) (hg : B ≤ g) : Below B w w' := (Below.refl B w).grown h hB (fun k e => by injection e with e; omega)

set_option maxHeartbeats 400000 in
theorem goOn (g : Nat) (l m : List UInt8) (b : Bool) (e : Nat) (w : World) (h : Tk w g l b) :
    Calls Try.prog 58 #[.pointer (some ⟨g, 0, none⟩), .string (bs m), .int .i64 (e : Nat)] w fun en w' => en = .returned (.tuple #[]) ∧ Tk w' g m (decide (e ≠ 0)) ∧ Only g w w' := by
  obtain ⟨c0, c1, f0, f1⟩ := h.cells
  have H := Lib.hid h
  clear h
  by_cases he : e = 0
  · subst he
    go_enter Try.func58, Try.ntmps58
    go_wp2
    go_end0
    exact ⟨rfl, H.out.set, ((Only.refl g _).set _ _).set _ _⟩
  · have he2 : ¬ ((e : Int) = 0) := by omega
    have he3 : ((e : Int) != 0) = true := by simp; omega
    have hd : decide (e ≠ 0) = true := by simpa using he
    have HD := Lib.hid hd
    clear he hd
    go_enter Try.func58, Try.ntmps58
    go_wp2
    go_end0
    exact ⟨rfl, by rw [HD.out]; exact H.out.set, ((Only.refl g _).set _ _).set _ _⟩
set_option maxHeartbeats 400000 in
theorem number_part (g : Nat) (l : List UInt8) (b : Bool) (w : World) (h : Tk w g l b) (hl : l.length ≤ maxLen) :
    Calls Try.prog 41 #[.pointer (some ⟨g, 0, none⟩)] w fun en w' => en = .returned (.int .u64 (tnN l : Nat)) ∧ Tk w' g (tnR l) (decide (tnW l ≠ 0)) ∧ Only g w w' := by
  obtain ⟨c0, c1, f0, f1⟩ := h.cells
  have H := Lib.hid h
  have hlt := h.lt
  have HT := PackTakeNum.take_own (bs l) w (by rw [bs_size]; exact hl)
  unfold PackTakeNum.Took at HT
  rw [bs_data] at HT
  have H1 := Lib.hid HT
  clear h HT hl
  go_enter Try.func41, Try.ntmps41
  go_wp2_with fail
  refine H1.out.mono ?_
  rintro en w1 ⟨rfl, hb⟩
  have H2 := Lib.hid (H.out.below hb hlt)
  have HO := Lib.hid (Only.of_below (g := g) hb)
  clear hb
  go_wp2_with fail
  refine (goOn g l (tnR l) b (tnW l) _ H2.out).mono ?_
  rintro en w2 ⟨rfl, h3, ho⟩
  have H3 := Lib.hid h3
  have HO2 := Lib.hid (HO.out.trans ho)
  clear h3 ho
  go_wp2
  go_ret
  exact ⟨rfl, H3.out, HO2.out⟩
theorem one_result {fn : Func} {p : Tmp} {ty : TypeId} (h : fn.results = #[.cell p ty]) (tmps : Array Value) (P : Program) (w : World) :
    (results fn tmps).run P w = ((asAddr (tmps.getD p undef)).run P w).andThen fun a w₁ => (loadVar ty a).run P w₁ := by
  simp [results, h]
theorem load_taker (w : World) (B : Nat) (s : ByteArray) (b : Bool) (h0 : w.cell? ⟨B, 0, none⟩ = some (.string s)) (h1 : w.cell? ⟨B, 1, none⟩ = some (.bool b)) :
    (loadVar 58 ⟨B, 0, none⟩).run Try.prog w = .ok (.agg #[.string s, .bool b]) w := by
  have a := Try.isAgg58 w
  have c := Try.sizeOf58 w
  go_simp
theorem bodyPost_taker {fn : Func} {p : Tmp} (h : fn.results = #[.cell p 58]) {R : Ending → World → Prop} {a : Act} {w : World} (B : Nat) (s : ByteArray) (b : Bool) (hd : a.defers = [])
    (hp : a.tmps.getD p undef = .pointer (some ⟨B, 0, none⟩)) (h0 : w.cell? ⟨B, 0, none⟩ = some (.string s)) (h1 : w.cell? ⟨B, 1, none⟩ = some (.bool b))
    (hR : R (.returned (.agg #[.string s, .bool b])) w) : bodyPost Try.prog fn R .ret a w := by
  refine bodyPost_ret ?_ hd hR
  rw [one_result h, hp]
  have := load_taker w B s b h0 h1
  simp [asAddr, this, Result.andThen]
set_option maxHeartbeats 400000 in
theorem of_any (s : ByteArray) (w : World) : Calls Try.prog 40 #[.string s] w fun e w' => e = .returned (.agg #[.string s, .bool false]) ∧ Below w.heap.size w w' := by
  go_enter Try.func40, Try.ntmps40
  go_wp2
  refine bodyPost_taker rfl w.heap.size s false rfl rfl ?_ ?_ ?_
  case refine_1 => go_simp
  case refine_2 => go_simp
  case refine_3 => exact ⟨rfl, (Below.refl _ _).alloc (Nat.le_refl _) _⟩
/-- What a frame that is all of some bytes holds; whether it is none. -/
def fmL (l : List UInt8) : List UInt8 := if tfW l = 0 then (if tfR l = [] then tfP l else []) else []
def fmB (l : List UInt8) : Bool := if tfW l = 0 then (if tfR l = [] then false else true) else true
theorem fm_bad (l : List UInt8) (h : tfW l ≠ 0) : fmL l = [] ∧ fmB l = true := by unfold fmL fmB; rw [if_neg h, if_neg h]; exact ⟨rfl, rfl⟩
theorem fm_more (l : List UInt8) (h : tfW l = 0) (h2 : tfR l ≠ []) : fmL l = [] ∧ fmB l = true := by unfold fmL fmB; rw [if_pos h, if_pos h, if_neg h2, if_neg h2]; exact ⟨rfl, rfl⟩
theorem fm_ok (l : List UInt8) (h : tfW l = 0) (h2 : tfR l = []) : fmL l = tfP l ∧ fmB l = false := by unfold fmL fmB; rw [if_pos h, if_pos h, if_pos h2, if_pos h2]; exact ⟨rfl, rfl⟩
theorem bs_nil (l : List UInt8) : (bs l).toList = [] ↔ l = [] := by
  rw [ByteArray.toList_eq, bs_data]
def FramedIs (l : List UInt8) (e : Ending) : Prop := e = .returned (.agg #[.string (bs (fmL l)), .bool (fmB l)])
theorem FramedIs.bad {l : List UInt8} (h : fmL l = [] ∧ fmB l = true) : FramedIs l (.returned (.agg #[.string ⟨#[]⟩, .bool true])) := by unfold FramedIs; rw [h.1, h.2]; rfl
theorem FramedIs.ok {l : List UInt8} (h : fmL l = tfP l ∧ fmB l = false) : FramedIs l (.returned (.agg #[.string (bs (tfP l)), .bool false])) := by unfold FramedIs; rw [h.1, h.2]
set_option maxHeartbeats 800000 in
theorem framed_any (s : ByteArray) (w : World) (hs : s.size ≤ maxLen) : Calls Try.prog 21 #[.string s] w fun e w' => FramedIs s.data.toList e ∧ Below w.heap.size w w' := by
  have HT := fun w => PackTakeFr.takeFrame_own s w hs
  unfold PackTakeFr.TookF at HT
  by_cases h0 : tfW s.data.toList = 0
  · by_cases h1 : tfR s.data.toList = []
    · have HF := Lib.hid (FramedIs.ok (fm_ok _ h0 h1))
      rw [h0, h1] at HT
      have H1 := Lib.hid HT
      have hn : (bs ([] : List UInt8)).toList = [] := (bs_nil _).2 rfl
      clear HT h0 h1
      generalize bs (tfP s.data.toList) = p at *
      go_enter Try.func21, Try.ntmps21
      go_wp2_with fail
      refine (H1.out _).mono ?_
      rintro e w1 ⟨rfl, hb⟩
      have d0 : w1.cell? ⟨w.heap.size, 0, none⟩ = some (.string ⟨#[]⟩) := by rw [hb.cell (by simp)]; simp [go_sem]
      have d1 : w1.cell? ⟨w.heap.size, 1, none⟩ = some (.bool false) := by rw [hb.cell (by simp)]; simp [go_sem]
      have e0 : w1.frozen? ⟨w.heap.size, 0, none⟩ = false := by rw [hb.frozen (by simp)]; simp [go_sem]
      have e1 : w1.frozen? ⟨w.heap.size, 1, none⟩ = false := by rw [hb.frozen (by simp)]; simp [go_sem]
      have hz := hb.size
      simp at hz
      have HB := Lib.hid (((Below.refl w.heap.size w).alloc (Nat.le_refl _) _).trans (hb.mono (by simp)))
      clear hb
      go_wp2_with fail
      refine (of_any _ _).mono ?_
      rintro e w2 ⟨rfl, hb⟩
      have k0 := (hb.cell (p := ⟨w.heap.size, 0, none⟩) (by show w.heap.size < _; omega)).trans d0
      have k1 := (hb.cell (p := ⟨w.heap.size, 1, none⟩) (by show w.heap.size < _; omega)).trans d1
      have l0 := (hb.frozen (p := ⟨w.heap.size, 0, none⟩) (by show w.heap.size < _; omega)).trans e0
      have l1 := (hb.frozen (p := ⟨w.heap.size, 1, none⟩) (by show w.heap.size < _; omega)).trans e1
      have HB2 := Lib.hid (HB.out.trans (hb.mono (by omega)))
      clear hb
      go_wp2
      refine bodyPost_taker rfl w.heap.size p false rfl rfl ?_ ?_ ?_
      case refine_1 => go_simp
      case refine_2 => go_simp
      case refine_3 => exact ⟨HF.out, (HB2.out.setCell (Nat.le_refl _) _).setCell (Nat.le_refl _) _⟩
    · have HF := Lib.hid (FramedIs.bad (fm_more _ h0 h1))
      have hn : (bs (tfR s.data.toList)).toList.isEmpty = false := by
        rw [← Bool.not_eq_true, List.isEmpty_iff]
        exact fun h => h1 ((bs_nil _).1 h)
      have hn2 : ¬ (bs (tfR s.data.toList)).toList = [] := fun h => h1 ((bs_nil _).1 h)
      rw [h0] at HT
      have H1 := Lib.hid HT
      clear HT h0 h1
      generalize bs (tfP s.data.toList) = p at *
      generalize bs (tfR s.data.toList) = q at *
      go_enter Try.func21, Try.ntmps21
      go_wp2_with fail
      refine (H1.out _).mono ?_
      rintro e w1 ⟨rfl, hb⟩
      have d0 : w1.cell? ⟨w.heap.size, 0, none⟩ = some (.string ⟨#[]⟩) := by rw [hb.cell (by simp)]; simp [go_sem]
      have d1 : w1.cell? ⟨w.heap.size, 1, none⟩ = some (.bool false) := by rw [hb.cell (by simp)]; simp [go_sem]
      have e0 : w1.frozen? ⟨w.heap.size, 0, none⟩ = false := by rw [hb.frozen (by simp)]; simp [go_sem]
      have e1 : w1.frozen? ⟨w.heap.size, 1, none⟩ = false := by rw [hb.frozen (by simp)]; simp [go_sem]
      have HB := Lib.hid (((Below.refl w.heap.size w).alloc (Nat.le_refl _) _).trans (hb.mono (by simp)))
      clear hb
      go_wp2
      refine bodyPost_taker rfl w.heap.size ⟨#[]⟩ true rfl rfl ?_ ?_ ?_
      case refine_1 => go_simp
      case refine_2 => go_simp
      case refine_3 => exact ⟨HF.out, (HB.out.setCell (Nat.le_refl _) _).setCell (Nat.le_refl _) _⟩
  · have HF := Lib.hid (FramedIs.bad (fm_bad _ h0))
    have h2 : ¬ ((tfW s.data.toList : Int) = 0) := by omega
    have h3 : (((tfW s.data.toList : Nat) : Int) != 0) = true := by simp; omega
    have H1 := Lib.hid HT
    clear HT h0
    generalize tfW s.data.toList = k at *
    generalize bs (tfP s.data.toList) = p at *
    generalize bs (tfR s.data.toList) = q at *
    go_enter Try.func21, Try.ntmps21
    go_wp2_with fail
    refine (H1.out _).mono ?_
    rintro e w1 ⟨rfl, hb⟩
    have d0 : w1.cell? ⟨w.heap.size, 0, none⟩ = some (.string ⟨#[]⟩) := by rw [hb.cell (by simp)]; simp [go_sem]
    have d1 : w1.cell? ⟨w.heap.size, 1, none⟩ = some (.bool false) := by rw [hb.cell (by simp)]; simp [go_sem]
    have e0 : w1.frozen? ⟨w.heap.size, 0, none⟩ = false := by rw [hb.frozen (by simp)]; simp [go_sem]
    have e1 : w1.frozen? ⟨w.heap.size, 1, none⟩ = false := by rw [hb.frozen (by simp)]; simp [go_sem]
    have HB := Lib.hid (((Below.refl w.heap.size w).alloc (Nat.le_refl _) _).trans (hb.mono (by simp)))
    clear hb
    go_wp2
    refine bodyPost_taker rfl w.heap.size ⟨#[]⟩ true rfl rfl ?_ ?_ ?_
    case refine_1 => go_simp
    case refine_2 => go_simp
    case refine_3 => exact ⟨HF.out, (HB.out.setCell (Nat.le_refl _) _).setCell (Nat.le_refl _) _⟩
/-- What a number that may be at most so much comes to. -/
def upV (m : Nat) (l : List UInt8) : Nat := if m < tnN l then 0 else tnN l
def upR (m : Nat) (l : List UInt8) : List UInt8 := if m < tnN l then [] else tnR l
def upB (m : Nat) (l : List UInt8) : Bool := if m < tnN l then true else decide (tnW l ≠ 0)
theorem upV_le (m : Nat) (l : List UInt8) : upV m l ≤ m := by unfold upV; split <;> omega
theorem upR_length (m : Nat) (l : List UInt8) : (upR m l).length ≤ l.length := by
  unfold upR
  split
  · exact Nat.zero_le _
  · exact tnR_length l
set_option maxHeartbeats 800000 in
theorem upto_part (g : Nat) (l : List UInt8) (b : Bool) (m : Nat) (w : World) (h : Tk w g l b) (hl : l.length ≤ maxLen) :
    Calls Try.prog 61 #[.pointer (some ⟨g, 0, none⟩), .int .u64 (m : Nat)] w fun en w' => en = .returned (.int .u64 (upV m l : Nat)) ∧ Tk w' g (upR m l) (upB m l) ∧ Only g w w' := by
  have H1 := Lib.hid (number_part g l b w h hl)
  by_cases hk : m < tnN l
  · have e1 : upV m l = 0 := by unfold upV; rw [if_pos hk]
    have e2 : upR m l = [] := by unfold upR; rw [if_pos hk]
    have e3 : upB m l = true := by unfold upB; rw [if_pos hk]
    rw [e1, e2, e3]
    have hk2 : (m : Int) < (tnN l : Nat) := by omega
    clear hk e1 e2 e3 h
    go_enter Try.func61, Try.ntmps61
    go_wp2_with fail
    refine H1.out.mono ?_
    rintro en w1 ⟨rfl, h2, ho⟩
    have H2 := Lib.hid h2
    have HO := Lib.hid ho
    clear h2 ho
    go_wp2_with fail
    refine (goOn g _ [] _ 4 _ H2.out).mono ?_
    rintro en w2 ⟨rfl, h3, ho⟩
    have H3 := Lib.hid h3
    have HO2 := Lib.hid (HO.out.trans ho)
    clear h3 ho
    go_wp2
    go_ret
    exact ⟨rfl, H3.out, HO2.out⟩
  · have e1 : upV m l = tnN l := by unfold upV; rw [if_neg hk]
    have e2 : upR m l = tnR l := by unfold upR; rw [if_neg hk]
    have e3 : upB m l = decide (tnW l ≠ 0) := by unfold upB; rw [if_neg hk]
    rw [e1, e2, e3]
    have hk2 : ((tnN l : Nat) : Int) ≤ (m : Int) := by omega
    clear hk e1 e2 e3 h
    go_enter Try.func61, Try.ntmps61
    go_wp2_with fail
    refine H1.out.mono ?_
    rintro en w1 ⟨rfl, h2, ho⟩
    have H2 := Lib.hid h2
    have HO := Lib.hid ho
    clear h2 ho
    go_wp2
    go_ret
    exact ⟨rfl, H2.out, HO.out⟩
set_option maxHeartbeats 400000 in
theorem text_part (g : Nat) (l : List UInt8) (b : Bool) (w : World) (h : Tk w g l b) (hl : l.length ≤ maxLen) :
    Calls Try.prog 43 #[.pointer (some ⟨g, 0, none⟩)] w fun en w' => en = .returned (.string (bs (ttT l))) ∧ Tk w' g (ttR l) (decide (ttW l ≠ 0)) ∧ Only g w w' := by
  obtain ⟨c0, c1, f0, f1⟩ := h.cells
  have H := Lib.hid h
  have hlt := h.lt
  have HT := PackText.takeText_own (bs l) w (by rw [bs_size]; exact hl)
  unfold PackText.TookT at HT
  rw [bs_data] at HT
  have H1 := Lib.hid HT
  clear h HT hl
  generalize bs (ttT l) = q at *
  go_enter Try.func43, Try.ntmps43
  go_wp2_with fail
  refine H1.out.mono ?_
  rintro en w1 ⟨rfl, hb⟩
  have H2 := Lib.hid (H.out.below hb hlt)
  have HO := Lib.hid (Only.of_below (g := g) hb)
  clear hb
  go_wp2_with fail
  refine (goOn g l (ttR l) b (ttW l) _ H2.out).mono ?_
  rintro en w2 ⟨rfl, h3, ho⟩
  have H3 := Lib.hid h3
  have HO2 := Lib.hid (HO.out.trans ho)
  clear h3 ho
  go_wp2
  go_ret
  exact ⟨rfl, H3.out, HO2.out⟩
set_option maxHeartbeats 400000 in
theorem done_part (g : Nat) (l : List UInt8) (b : Bool) (w : World) (h : Tk w g l b) :
    Calls Try.prog 44 #[.pointer (some ⟨g, 0, none⟩)] w fun en w' => en = .returned (.bool (!b && l.isEmpty)) ∧ w = w' := by
  obtain ⟨c0, c1, f0, f1⟩ := h.cells
  clear h
  cases b
  · by_cases hn : l = []
    · subst hn
      have e0 : (bs ([] : List UInt8)).toList = [] := (bs_nil _).2 rfl
      go_enter Try.func44, Try.ntmps44
      go_wp2
      go_ret
      exact ⟨rfl, rfl⟩
    · have e0 : (bs l).toList.isEmpty = false := by
        rw [← Bool.not_eq_true, List.isEmpty_iff]
        exact fun h => hn ((bs_nil _).1 h)
      have e1 : ¬ (bs l).toList = [] := fun h => hn ((bs_nil _).1 h)
      have HN : Hid (l.isEmpty = false) := by
        show _ = _
        rw [← Bool.not_eq_true, List.isEmpty_iff]; exact hn
      clear hn
      go_enter Try.func44, Try.ntmps44
      go_wp2
      go_ret
      exact ⟨by rw [HN.out]; rfl, rfl⟩
  · go_enter Try.func44, Try.ntmps44
    go_wp2
    go_ret
    exact ⟨rfl, rfl⟩
end Hd
end Go.Proofs.Ytjgdmdgiicpemaa
