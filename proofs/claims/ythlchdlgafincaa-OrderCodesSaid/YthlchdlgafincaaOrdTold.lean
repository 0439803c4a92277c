/-
  WHAT IS TOLD, as bytes: made and taken by cluster and order.
-/
import Derived.Test.YthlchdlgafincaaPartsMk
import Derived.Test.YthlchdlgafincaaHardPart
namespace Go.Proofs.Ythlchdlgafincaa
open Go.RowKit
namespace Hd
open PM
theorem box_cells {w : World} {b : Nat} {cs : Array Value} {T : TypeId} (h : w.heap[b]? = some (.cells cs T (0, 0))) : (∀ i, w.cell? ⟨b, i, none⟩ = cs[i]?) := by
  intro i
  simp [World.cell?, h]
def tlB (why : Nat) (s : ByteArray) : List UInt8 := num why ++ txt s.data.toList
set_option maxHeartbeats 1000000 in
theorem told_make (B g : Nat) (l : List UInt8) (why : Nat) (s : ByteArray) (w : World) (h : Mk w B g l) (hwy : why < 2 ^ 63) (hs : s.size ≤ 1000000) (hlen : l.length ≤ 90000000000000) (hBw : B ≤ w.heap.size) :
    Calls Try.prog 41 #[.pointer (some ⟨g, 0, none⟩), .agg #[.int .i64 (why : Nat), .string s]] w fun e w' => e = .returned (.tuple #[]) ∧ Mk w' B g (l ++ tlB why s) ∧ Fr B g w w' := by
  have hb0 : Below w.heap.size w (w.alloc (.cells #[.int .i64 (why : Nat), .string s] 44)).drew := ((Below.refl _ _).alloc (Nat.le_refl _) _).drew
  have HM0 := Lib.hid (h.below hb0)
  have HF0 := Lib.hid (Fr.of_below (B := B) (g := g) hb0 hBw)
  have hgl : g ≠ w.heap.size := by have := h.lt; omega
  have HG := Lib.hid (Ne.symm hgl)
  have HB0 : Hid (B ≤ (w.alloc (.cells #[.int .i64 (why : Nat), .string s] 44)).drew.heap.size) := Nat.le_trans hBw hb0.size
  have HX0 : Hid ((w.alloc (.cells #[.int .i64 (why : Nat), .string s] 44)).drew.heap[w.heap.size]? = some (.cells #[.int .i64 (why : Nat), .string s] 44 (0, 0))) := heap_alloc_new w _
  have HN := Lib.hid (fun z (hz : Mk z B g l) (hB : B ≤ z.heap.size) => mk_number B g l why z hz (by omega) (by omega) hB)
  have hn9 : (num why).length ≤ 9 := by rw [num_length]; have := (nsz_spec why (by omega)).1; omega
  have HT := Lib.hid (fun z (hz : Mk z B g (l ++ num why)) (hB : B ≤ z.heap.size) => mk_text B g (l ++ num why) s z hz hs (by rw [List.length_append]; omega) hB)
  have tw : IntKind.u64.wrap ((why : Nat) : Int) = ((why : Nat) : Int) := by rw [IntKind.wrap_u64]; omega
  have eL : l ++ num why ++ txt s.data.toList = l ++ tlB why s := by rw [List.append_assoc]; rfl
  have EL := Lib.hid eL
  clear h hb0 hgl hlen hn9 eL hs
  go_enter Try.func41, Try.ntmps41
  go_wp2
  go_region_with (go_at_call 45; go_loud ((with_reducible refine (HN.out _ HM0.out HB0.out).mono ?_); rintro e w1 ⟨rfl, h1, hf1⟩; have HM1 := Lib.hid (h1.below (Below.refl _ _).drew); have hd1 : Below w1.heap.size w1 w1.drew := (Below.refl _ _).drew; have HB1 : Hid (B ≤ w1.drew.heap.size) := Nat.le_trans HB0.out hf1.1.size; have HF1 := Lib.hid ((HF0.out.trans hf1).trans (Fr.of_below (B := B) (g := g) hd1 HB1.out)); have hx1 := box_cells (hf1.keep HX0.out HG.out (by decide)); have c0 := hx1 0; have c1 := hx1 1; clear h1 hf1 hx1 hd1))
  go_wp2
  go_region_with (go_at_call 72; go_loud ((with_reducible refine (HT.out _ HM1.out HB1.out).mono ?_); rintro e w2 ⟨rfl, h2, hf2⟩; have HM2 := Lib.hid h2; have HF2 := Lib.hid (HF1.out.trans hf2); clear h2 hf2 c0 c1))
  go_wp2
  go_end0
  exact ⟨rfl, by rw [← EL.out]; exact HM2.out, HF2.out⟩
/-- A box of two cells. -/
def Bx2 (w : World) (B : Nat) (a b : Value) : Prop := ∃ T, w.heap[B]? = some (.cells #[a, b] T (0, 0))
theorem Bx2.lt {w : World} {B : Nat} {a b : Value} (h : Bx2 w B a b) : B < w.heap.size := by
  obtain ⟨T, h⟩ := h
  exact (Array.getElem?_eq_some_iff.1 h).1
theorem Bx2.cells {w : World} {B : Nat} {a b : Value} (h : Bx2 w B a b) : w.cell? ⟨B, 0, none⟩ = some a ∧ w.cell? ⟨B, 1, none⟩ = some b := by
  obtain ⟨T, h⟩ := h
  refine ⟨?_, ?_⟩ <;> simp [World.cell?, h]
theorem Bx2.fz {w : World} {B : Nat} {a b : Value} (h : Bx2 w B a b) : w.frozen? ⟨B, 0, none⟩ = false ∧ w.frozen? ⟨B, 1, none⟩ = false := by
  obtain ⟨T, h⟩ := h
  refine ⟨?_, ?_⟩ <;> simp [World.frozen?, h]
theorem Bx2.set0 {w : World} {B : Nat} {a b : Value} (h : Bx2 w B a b) (u : Value) : Bx2 (w.setCell ⟨B, 0, none⟩ u) B u b := by obtain ⟨T, h⟩ := h; exact ⟨T, by simp [World.setCell, Array.getElem?_modify, h]⟩
theorem Bx2.set1 {w : World} {B : Nat} {a b : Value} (h : Bx2 w B a b) (u : Value) : Bx2 (w.setCell ⟨B, 1, none⟩ u) B a u := by obtain ⟨T, h⟩ := h; exact ⟨T, by simp [World.setCell, Array.getElem?_modify, h]⟩
theorem Bx2.below {w w' : World} {B : Nat} {a b : Value} (h : Bx2 w B a b) (hb : Below w.heap.size w w') : Bx2 w' B a b := by
  have hl := h.lt
  obtain ⟨T, h⟩ := h
  exact ⟨T, (hb.block B hl).trans h⟩
theorem Bx2.only {w w' : World} {B g : Nat} {a b : Value} (h : Bx2 w B a b) (ho : Only g w w') (hg : B ≠ g) : Bx2 w' B a b := by
  have hl := h.lt
  obtain ⟨T, h⟩ := h
  exact ⟨T, (ho.block B hl (by intro e; injection e with e; exact hg e)).trans h⟩
theorem Bx2.made (w : World) (a b : Value) (T : TypeId) : Bx2 (w.alloc (.cells #[a, b] T)) w.heap.size a b := ⟨T, heap_alloc_new w _⟩
theorem Tk.far {w : World} {g : Nat} {l : List UInt8} {b : Bool} (h : Tk w g l b) {B : Nat} (hg : g ≠ B) (o : Nat) (u : Value) : Tk (w.setCell ⟨B, o, none⟩ u) g l b := by
  obtain ⟨T, h⟩ := h
  refine ⟨T, ?_⟩
  rw [Below.heap_setCell w ⟨B, o, none⟩ u g hg]
  exact h
theorem Only.put2 {w w' : World} {g B : Nat} (h : Only g w w') (hB : w.heap.size ≤ B) (o : Nat) (u : Value) : Only g w (w'.setCell ⟨B, o, none⟩ u) := by
  refine ⟨h.os, h.tape, h.output, ?_, ?_⟩
  · have := h.size; simpa [World.setCell] using this
  · intro i hi hn
    rw [Below.heap_setCell w' ⟨B, o, none⟩ u i (by show i ≠ B; omega)]
    exact h.block i hi hn
theorem load_told (w : World) (B : Nat) (v : Int) (s : ByteArray) (h : Bx2 w B (.int .i64 v) (.string s)) :
    (loadVar 44 ⟨B, 0, none⟩).run Try.prog w = .ok (.agg #[.int .i64 v, .string s]) w := by
  obtain ⟨c0, c1⟩ := h.cells
  have a := Try.isAgg44 w
  have c := Try.sizeOf44 w
  go_simp
theorem bodyPost_told {fn : Func} {p : Tmp} (h : fn.results = #[.cell p 44]) {R : Ending → World → Prop} {a : Act} {w : World} (B : Nat) (v : Int) (s : ByteArray) (hd : a.defers = [])
    (hp : a.tmps.getD p undef = .pointer (some ⟨B, 0, none⟩)) (hx : Bx2 w B (.int .i64 v) (.string s))
    (hR : R (.returned (.agg #[.int .i64 v, .string s])) w) : bodyPost Try.prog fn R .ret a w := by
  refine bodyPost_ret ?_ hd hR
  rw [one_result h, hp]
  have := load_told w B v s hx
  simp [asAddr, this, Result.andThen]
/-- What is taken of something told. -/
def tdW (l : List UInt8) : Nat := upV 255 l
def tdR (l : List UInt8) : List UInt8 := upR 255 l
/-- Where the taking stands: what is left, the box of what was taken, the box of the result. -/
structure Ts (w0 : World) (g : Nat) (l : List UInt8) (b : Bool) (a0 a1 r0 r1 : Value) (x : World) : Prop where
  tk : Tk x g l b
  bx : Bx2 x (w0.heap.size + 1) a0 a1
  rb : Bx2 x w0.heap.size r0 r1
  on : Only g w0 x
  lt : g < w0.heap.size
theorem Ts.go {w0 : World} {g : Nat} {l l2 : List UInt8} {b b2 : Bool} {a0 a1 r0 r1 : Value} {x x' : World} (h : Ts w0 g l b a0 a1 r0 r1 x) (ht : Tk x' g l2 b2) (ho : Only g x x') : Ts w0 g l2 b2 a0 a1 r0 r1 x' :=
  ⟨ht, h.bx.only ho (by have := h.lt; omega), h.rb.only ho (by have := h.lt; omega), h.on.trans ho, h.lt⟩
theorem Bx2.apart {w : World} {B p : Nat} {a b : Value} (h : Bx2 w B a b) (hp : p ≠ B) (o : Nat) (u : Value) : Bx2 (w.setCell ⟨p, o, none⟩ u) B a b :=
  h.imp fun _ h => (Below.heap_setCell w ⟨p, o, none⟩ u B (by rintro rfl; exact hp rfl)).trans h
theorem Ts.p0 {w0 : World} {g : Nat} {l : List UInt8} {b : Bool} {a0 a1 r0 r1 : Value} {x : World} (h : Ts w0 g l b a0 a1 r0 r1 x) (u : Value) : Ts w0 g l b u a1 r0 r1 (x.setCell ⟨w0.heap.size + 1, 0, none⟩ u) :=
  ⟨h.tk.far (by have := h.lt; omega) 0 u, h.bx.set0 u, h.rb.apart (by omega) 0 u, h.on.put2 (by omega) 0 u, h.lt⟩
theorem Ts.p1 {w0 : World} {g : Nat} {l : List UInt8} {b : Bool} {a0 a1 r0 r1 : Value} {x : World} (h : Ts w0 g l b a0 a1 r0 r1 x) (u : Value) : Ts w0 g l b a0 u r0 r1 (x.setCell ⟨w0.heap.size + 1, 1, none⟩ u) :=
  ⟨h.tk.far (by have := h.lt; omega) 1 u, h.bx.set1 u, h.rb.apart (by omega) 1 u, h.on.put2 (by omega) 1 u, h.lt⟩
theorem Ts.q0 {w0 : World} {g : Nat} {l : List UInt8} {b : Bool} {a0 a1 r0 r1 : Value} {x : World} (h : Ts w0 g l b a0 a1 r0 r1 x) (u : Value) : Ts w0 g l b a0 a1 u r1 (x.setCell ⟨w0.heap.size, 0, none⟩ u) :=
  ⟨h.tk.far (by have := h.lt; omega) 0 u, h.bx.apart (by omega) 0 u, h.rb.set0 u, h.on.put2 (by omega) 0 u, h.lt⟩
theorem Ts.q1 {w0 : World} {g : Nat} {l : List UInt8} {b : Bool} {a0 a1 r0 r1 : Value} {x : World} (h : Ts w0 g l b a0 a1 r0 r1 x) (u : Value) : Ts w0 g l b a0 a1 r0 u (x.setCell ⟨w0.heap.size, 1, none⟩ u) :=
  ⟨h.tk.far (by have := h.lt; omega) 1 u, h.bx.apart (by omega) 1 u, h.rb.set1 u, h.on.put2 (by omega) 1 u, h.lt⟩
theorem Ts.made {w : World} {g : Nat} {l : List UInt8} {b : Bool} (h : Tk w g l b) : Ts w g l b (.int .i64 0) (.string ⟨#[]⟩) (.int .i64 0) (.string ⟨#[]⟩) ((w.alloc (.cells #[.int .i64 0, .string ⟨#[]⟩] 44)).alloc (.cells #[.int .i64 0, .string ⟨#[]⟩] 44)) := by
  have hl := h.lt
  have h1 : Below w.heap.size w (w.alloc (.cells #[.int .i64 0, .string ⟨#[]⟩] 44)) := (Below.refl _ _).alloc (Nat.le_refl _) _
  have h2 : Below (w.alloc (.cells #[.int .i64 0, .string ⟨#[]⟩] 44)).heap.size (w.alloc (.cells #[.int .i64 0, .string ⟨#[]⟩] 44)) ((w.alloc (.cells #[.int .i64 0, .string ⟨#[]⟩] 44)).alloc (.cells #[.int .i64 0, .string ⟨#[]⟩] 44)) := (Below.refl _ _).alloc (Nat.le_refl _) _
  have h3 := h1.trans (h2.mono h1.size)
  refine ⟨h.below h3 hl, ?_, (Bx2.made w _ _ _).below h2, Only.of_below h3, hl⟩
  have := Bx2.made (w.alloc (.cells #[.int .i64 0, .string ⟨#[]⟩] 44)) (.int .i64 0) (.string ⟨#[]⟩) 44
  rw [World.size_alloc] at this
  exact this
set_option maxHeartbeats 1000000 in
theorem told_take (g : Nat) (l : List UInt8) (b : Bool) (w : World) (h : Tk w g l b) (hl : l.length ≤ maxLen) :
    Calls Try.prog 43 #[.pointer (some ⟨g, 0, none⟩)] w fun en w' => en = .returned (.agg #[.int .i64 (tdW l : Nat), .string (bs (ttT (tdR l)))]) ∧ Tk w' g (ttR (tdR l)) (decide (ttW (tdR l) ≠ 0)) ∧ Only g w w' := by
  have HS0 := Lib.hid (Ts.made h)
  have hu := fun z (hz : Tk z g l b) => upto_part g l b 255 z hz hl
  rw [show ((255 : Nat) : Int) = 255 from rfl] at hu
  have HU := Lib.hid hu
  have HT := Lib.hid (fun z c (hz : Tk z g (upR 255 l) c) => text_part g (upR 255 l) c z hz (Nat.le_trans (upR_length 255 l) hl))
  have h255 := upV_le 255 l
  have tw : IntKind.i64.wrap ((upV 255 l : Nat) : Int) = ((upV 255 l : Nat) : Int) := by rw [IntKind.wrap_i64]; omega
  unfold tdW tdR
  clear h hl h255 hu
  generalize upV 255 l = v at *
  generalize bs (ttT (upR 255 l)) = q at *
  go_enter Try.func43, Try.ntmps43
  go_wp2_with fail
  refine (HU.out _ HS0.out.tk).mono ?_
  rintro e w1 ⟨rfl, h1, ho1⟩
  have HS1 := Lib.hid (HS0.out.go h1 ho1)
  obtain ⟨c0, c1⟩ := HS1.out.bx.cells
  obtain ⟨f0, f1⟩ := HS1.out.bx.fz
  have HS2 := Lib.hid (HS1.out.p0 (.int .i64 (v : Nat)))
  clear h1 ho1
  go_wp2_with fail
  refine (HT.out _ _ HS2.out.tk).mono ?_
  rintro e w2 ⟨rfl, h2, ho2⟩
  have HS3 := Lib.hid (HS2.out.go h2 ho2)
  have HS4 := Lib.hid (HS3.out.p1 (.string q))
  clear h2 ho2 c0 c1 f0 f1
  obtain ⟨c0, c1⟩ := HS3.out.bx.cells
  obtain ⟨f0, f1⟩ := HS3.out.bx.fz
  obtain ⟨r0, r1⟩ := HS3.out.rb.cells
  obtain ⟨g0, g1⟩ := HS3.out.rb.fz
  go_wp2
  refine bodyPost_told rfl w.heap.size v q rfl rfl ?_ ?_
  case refine_1 => exact ((HS4.out.q0 _).q1 _).rb
  case refine_2 => exact ⟨rfl, ((HS4.out.q0 _).q1 _).tk, ((HS4.out.q0 _).q1 _).on⟩
/-- Whether something told is right. -/
def tdOk (why : Int) (s : ByteArray) : Bool := decide (0 ≤ why) && (decide (why ≤ 255) && decide (s.size ≤ 32))
set_option maxHeartbeats 1000000 in
theorem told_right (why : Int) (s : ByteArray) (w : World) :
    Calls Try.prog 40 #[.agg #[.int .i64 why, .string s]] w fun e w' => e = .returned (.bool (tdOk why s)) ∧ Below w.heap.size w w' := by
  have hr : tdOk why s = (decide (0 ≤ why) && (decide (why ≤ 255) && decide (s.size ≤ 32))) := rfl
  generalize tdOk why s = r at *
  by_cases h1 : 0 ≤ why
  · have h1' : decide ((0 : Int) ≤ why) = true := decide_eq_true h1
    by_cases h2 : why ≤ 255
    · have h2' : decide (why ≤ 255) = true := decide_eq_true h2
      by_cases h3 : s.size ≤ 32
      · have HR : Hid (r = true) := hr.trans (by rw [h1', h2', decide_eq_true h3]; rfl)
        have h3' : ((s.size : Nat) : Int) ≤ 32 := by omega
        have h3'' : decide (((s.size : Nat) : Int) ≤ 32) = true := decide_eq_true h3'
        clear hr h3
        go_enter Try.func40, Try.ntmps40
        go_wp2
        go_ret
        exact ⟨by rw [HR.out]; rfl, (Below.refl _ _).alloc (Nat.le_refl _) _⟩
      · have HR : Hid (r = false) := hr.trans (by rw [h1', h2', decide_eq_false h3]; rfl)
        have h3' : ¬ ((s.size : Nat) : Int) ≤ 32 := by omega
        have h3'' : decide (((s.size : Nat) : Int) ≤ 32) = false := decide_eq_false h3'
        clear hr h3
        go_enter Try.func40, Try.ntmps40
        go_wp2
        go_ret
        exact ⟨by rw [HR.out]; rfl, (Below.refl _ _).alloc (Nat.le_refl _) _⟩
    · have h2' : decide (why ≤ 255) = false := decide_eq_false h2
      have HR : Hid (r = false) := hr.trans (by rw [h1', h2']; rfl)
      clear hr
      go_enter Try.func40, Try.ntmps40
      go_wp2
      go_ret
      exact ⟨by rw [HR.out]; rfl, (Below.refl _ _).alloc (Nat.le_refl _) _⟩
  · have h1' : decide ((0 : Int) ≤ why) = false := decide_eq_false h1
    have HR : Hid (r = false) := hr.trans (by rw [h1']; rfl)
    clear hr
    go_enter Try.func40, Try.ntmps40
    go_wp2
    go_ret
    exact ⟨by rw [HR.out]; rfl, (Below.refl _ _).alloc (Nat.le_refl _) _⟩
def teS (why : Int) (s : ByteArray) : List UInt8 := if tdOk why s = true then tlB why.toNat s else []
def teE (why : Int) (s : ByteArray) : Nat := if tdOk why s = true then 0 else 4
def ToldIs (why : Int) (s : ByteArray) (e : Ending) : Prop := e = .returned (.tuple #[.string (bs (teS why s)), .int .i64 (teE why s : Nat)])
theorem fits_order : Fits 62 := ⟨by kernel_rfl, by decide⟩
theorem tlB_ne (n : Nat) (s : ByteArray) : tlB n s ≠ [] := by simp [tlB, num]
set_option maxHeartbeats 1000000 in
theorem told_encode (why : Int) (s : ByteArray) (w : World) :
    Calls Try.prog 18 #[.agg #[.int .i64 why, .string s]] w fun e w' => ToldIs why s e ∧ Below w.heap.size w w' := by
  have hr := fun z => told_right why s z
  cases hk : tdOk why s with
  | false =>
    have hno : ToldIs why s (.returned (.tuple #[.string ⟨#[]⟩, .int .i64 4])) := by unfold ToldIs teS teE; rw [hk]; rfl
    rw [hk] at hr
    have HR := Lib.hid hr
    have HNO := Lib.hid hno
    clear hr hk hno
    go_enter Try.func18, Try.ntmps18
    go_wp2_with fail
    refine (HR.out _).mono ?_
    rintro e w1 ⟨rfl, hb⟩
    have HB := Lib.hid (((Below.refl w.heap.size w).alloc (Nat.le_refl _) (.cells #[.int .i64 why, .string s] 44)).trans (hb.mono (by simp)))
    clear hb
    go_wp2
    go_ret2
    exact ⟨HNO.out, HB.out⟩
  | true =>
    have hk2 := hk
    unfold tdOk at hk2
    simp only [Bool.and_eq_true, decide_eq_true_eq] at hk2
    obtain ⟨h1, h2, h3⟩ := hk2
    obtain ⟨n, rfl⟩ := Int.eq_ofNat_of_zero_le h1
    have hyes : ToldIs (n : Nat) s (.returned (.tuple #[.string (bs (tlB n s)), .int .i64 0])) := by unfold ToldIs teS teE; rw [hk]; rfl
    rw [hk] at hr
    have HR := Lib.hid hr
    have HY := Lib.hid hyes
    have HBX : Hid (∀ z, Below (w.alloc (.cells #[.int .i64 (n : Nat), .string s] 44)).heap.size (w.alloc (.cells #[.int .i64 (n : Nat), .string s] 44)) z → Bx2 z w.heap.size (.int .i64 (n : Nat)) (.string s) ∧ Below w.heap.size w z) := fun z hb => ⟨(Bx2.made w _ _ _).below hb, ((Below.refl w.heap.size w).alloc (Nat.le_refl _) _).trans (hb.mono (by simp))⟩
    have HMK := Lib.hid (fun (z : World) => told_make z.heap.size z.heap.size [] n s (z.alloc (.cells #[.pointer none, .slice none 0 0] 62)) (Mk.made _ fits_order z) (by omega) (by omega) (by simp) (by simp))
    have HNE := Lib.hid (tlB_ne n s)
    clear hr hk hyes h1 h2 h3
    go_enter Try.func18, Try.ntmps18
    go_wp2_with fail
    refine (HR.out _).mono ?_
    rintro e w1 ⟨rfl, hb⟩
    have HB1 := Lib.hid (HBX.out _ hb)
    have hm1 : Below w1.heap.size w1 (w1.alloc (.cells #[.pointer none, .slice none 0 0] 62)) := (Below.refl _ _).alloc (Nat.le_refl _) _
    obtain ⟨c0, c1⟩ := (HB1.out.1.below hm1).cells
    have HB2 := Lib.hid (HB1.out.2.trans (hm1.mono HB1.out.2.size))
    have HS1 := Lib.hid HB1.out.2.size
    clear hb hm1
    go_wp2_with fail
    refine (HMK.out w1).mono ?_
    rintro e w2 ⟨rfl, h2, hf2⟩
    rw [List.nil_append] at h2
    have HM2 := Lib.hid h2
    have HB3 := Lib.hid (HB2.out.trans (hf2.1.mono HS1.out))
    clear h2 hf2 c0 c1
    go_wp2_with fail
    refine (mk_bytes w1.heap.size w1.heap.size (tlB n s) _ HM2.out HNE.out).mono ?_
    rintro e w3 ⟨rfl, hb⟩
    have HB4 := Lib.hid (HB3.out.trans (hb.mono HS1.out))
    clear hb
    go_wp2
    go_ret2
    exact ⟨HY.out, HB4.out⟩
end Hd
end Go.Proofs.Ythlchdlgafincaa
