/-
  WHERE A FILE IS: disk.find (sort.Search with a closure), and the place that the first file of that name has.
-/
import Derived.Test.YtjgdmdgiicpemaaDisk
import Derived.Shelf.SlSorted.Search
namespace Go.Proofs.Ytjgdmdgiicpemaa
open Go.RowKit Go.Lib Go.Sort
namespace Dk
def search_ren : Go.Shelf.Ren := ⟨fun | 16 => 47 | n => n, fun | 3 => 3 | 4 => 4 | 35 => 88 | 38 => 69 | n => n, fun n => n⟩
theorem search : SlLaysO.n16 Try.prog search_ren :=
  { mixed := by kernel_rfl
    f16 := Try.func47.trans (congrArg some (by kernel_rfl))
    t3 := Try.underlying3
    a3 := Try.isAgg3
    z3 := Try.sizeOf3
    v3 := Try.zeroValue3
    t4 := Try.underlying4
    a4 := Try.isAgg4
    z4 := Try.sizeOf4
    v4 := Try.zeroValue4
    t35 := Try.underlying88
    a35 := Try.isAgg88
    z35 := Try.sizeOf88
    v35 := Try.zeroValue88
    t38 := Try.underlying69
    a38 := Try.isAgg69
    z38 := Try.sizeOf69
    v38 := Try.zeroValue69 }

def geA (fs : List Fl) (nm : ByteArray) (i : Nat) : Bool := match fs[i]? with | none => true | some f => !(Op.bytesLess f.nm.toList nm.toList)
def lbN (fs : List Fl) (nm : ByteArray) : Nat := (List.range fs.length).countP (fun i => !(geA fs nm i))
def idxN (fs : List Fl) (nm : ByteArray) : Nat := fs.findIdx (fun f => f.nm.toList == nm.toList)
def hasN (fs : List Fl) (nm : ByteArray) : Bool := decide (idxN fs nm < fs.length)

theorem first_spec (p : Nat → Bool) (n : Nat) (hm : ∀ a b, a ≤ b → b < n → p a = true → p b = true) :
    (List.range n).countP (fun i => !(p i)) ≤ n ∧ (∀ i, i < (List.range n).countP (fun i => !(p i)) → p i = false) ∧ (∀ i, (List.range n).countP (fun i => !(p i)) ≤ i → i < n → p i = true) := by
  induction n with
  | zero => simp
  | succ n ih =>
    obtain ⟨h1, h2, h3⟩ := ih (fun a b hab hb => hm a b hab (by omega))
    rw [List.range_succ, List.countP_append]
    cases hp : p n with
    | true =>
      have e : List.countP (fun i => !(p i)) [n] = 0 := by simp [hp]
      rw [e, Nat.add_zero]
      refine ⟨by omega, h2, fun i hi hin => ?_⟩
      by_cases he : i = n
      · rw [he]; exact hp
      · exact h3 i hi (by omega)
    | false =>
      have e : List.countP (fun i => !(p i)) [n] = 1 := by simp [hp]
      have hk : (List.range n).countP (fun i => !(p i)) = n := by
        by_cases hlt : (List.range n).countP (fun i => !(p i)) < n
        · have := hm (n - 1) n (by omega) (by omega) (h3 _ (by omega) (by omega))
          rw [hp] at this; cases this
        · omega
      rw [e, hk]
      refine ⟨by omega, fun i hi => ?_, fun i hi hin => by omega⟩
      by_cases he : i = n
      · rw [he]; exact hp
      · exact h2 i (by omega)

theorem lt_trans' (a b c : List UInt8) (h : Op.bytesLess a b = true) (h2 : Op.bytesLess b c = true) : Op.bytesLess a c = true := by
  rw [Go.Proofs.bytesLess_eq] at *
  simp only [decide_eq_true_eq] at *
  exact List.lt_trans h h2
theorem lt_irrefl' (a : List UInt8) : Op.bytesLess a a = false := by
  rw [Go.Proofs.bytesLess_eq]; simp [List.lt_irrefl]
theorem lt_conn (a b : List UInt8) (h : Op.bytesLess a b = false) (h2 : Op.bytesLess b a = false) : a = b := by
  rw [Go.Proofs.bytesLess_eq] at *
  simp only [decide_eq_false_iff_not] at *
  exact List.le_antisymm h2 h

theorem okAt_of (fs : List Fl) (h : okTo fs fs.length = true) (i : Nat) (hi : i < fs.length) : okAt fs i = true := by
  unfold okTo at h
  rw [List.all_eq_true] at h
  exact h i (List.mem_range.2 hi)
theorem step_lt (fs : List Fl) (h : okTo fs fs.length = true) (i : Nat) (hi : i + 1 < fs.length) : Op.bytesLess fs[i].nm.toList fs[i + 1].nm.toList = true := by
  have := okAt_of fs h (i + 1) hi
  rw [okAt_succ fs i hi] at this
  simp only [Bool.and_eq_true] at this
  exact this.1.1
theorem rise (fs : List Fl) (h : okTo fs fs.length = true) (i : Nat) : ∀ j (hij : i < j) (hj : j < fs.length), Op.bytesLess fs[i].nm.toList fs[j].nm.toList = true
  | 0, hij, _ => by omega
  | j + 1, hij, hj => by
    have hs := step_lt fs h j hj
    by_cases he : i = j
    · subst he; exact hs
    · exact lt_trans' _ _ _ (rise fs h i j (by omega) (by omega)) hs
theorem geA_some (fs : List Fl) (nm : ByteArray) (i : Nat) (hi : i < fs.length) : geA fs nm i = !(Op.bytesLess fs[i].nm.toList nm.toList) := by
  unfold geA; rw [List.getElem?_eq_getElem hi]
theorem geA_mono (fs : List Fl) (nm : ByteArray) (h : okTo fs fs.length = true) (a b : Nat) (hab : a ≤ b) (hb : b < fs.length) (hp : geA fs nm a = true) : geA fs nm b = true := by
  by_cases he : a = b
  · rw [← he]; exact hp
  · have hr := rise fs h a b (by omega) hb
    rw [geA_some fs nm a (by omega)] at hp
    rw [geA_some fs nm b hb]
    cases hx : Op.bytesLess fs[b].nm.toList nm.toList with
    | false => rfl
    | true =>
      have := lt_trans' _ _ _ hr hx
      rw [this] at hp; cases hp
theorem lb_spec (fs : List Fl) (nm : ByteArray) (h : okTo fs fs.length = true) :
    lbN fs nm ≤ fs.length ∧ (∀ i (hi : i < fs.length), i < lbN fs nm → Op.bytesLess fs[i].nm.toList nm.toList = true) ∧ (∀ i (hi : i < fs.length), lbN fs nm ≤ i → Op.bytesLess fs[i].nm.toList nm.toList = false) := by
  obtain ⟨h1, h2, h3⟩ := first_spec (geA fs nm) fs.length (fun a b => geA_mono fs nm h a b)
  refine ⟨h1, fun i hi hl => ?_, fun i hi hl => ?_⟩
  · have := h2 i hl
    rw [geA_some fs nm i hi] at this
    simpa using this
  · have := h3 i hl hi
    rw [geA_some fs nm i hi] at this
    simpa using this
theorem idx_at (fs : List Fl) (nm : ByteArray) (h : idxN fs nm < fs.length) : fs[idxN fs nm].nm.toList = nm.toList := by
  have := List.findIdx_getElem (p := fun f : Fl => f.nm.toList == nm.toList) (xs := fs) (w := h)
  exact eq_of_beq this
theorem idx_lt (fs : List Fl) (nm : ByteArray) (i : Nat) (hi : i < fs.length) (he : fs[i].nm.toList = nm.toList) : idxN fs nm < fs.length := by
  unfold idxN
  exact List.findIdx_lt_length_of_exists ⟨fs[i], List.getElem_mem hi, by rw [he]; simp⟩
theorem lb_idx (fs : List Fl) (nm : ByteArray) (h : okTo fs fs.length = true) (hi : idxN fs nm < fs.length) : lbN fs nm = idxN fs nm := by
  obtain ⟨h1, h2, h3⟩ := lb_spec fs nm h
  have ha := idx_at fs nm hi
  by_cases hl : idxN fs nm < lbN fs nm
  · have := h2 _ hi hl
    rw [ha, lt_irrefl'] at this; cases this
  · by_cases hg : lbN fs nm < idxN fs nm
    · have hr := rise fs h _ _ hg hi
      rw [ha, h3 _ (by omega) (Nat.le_refl _)] at hr; cases hr
    · omega
theorem has_lb (fs : List Fl) (nm : ByteArray) (h : okTo fs fs.length = true) (hl : lbN fs nm < fs.length) : hasN fs nm = (fs[lbN fs nm].nm.toList == nm.toList) := by
  unfold hasN
  cases hb : (fs[lbN fs nm].nm.toList == nm.toList) with
  | true => rw [decide_eq_true_eq]; exact idx_lt fs nm _ hl (eq_of_beq hb)
  | false =>
    rw [decide_eq_false_iff_not]
    intro hi
    have e := lb_idx fs nm h hi
    have ha := idx_at fs nm hi
    simp only [← e] at ha
    rw [ha] at hb
    simp at hb
theorem has_none (fs : List Fl) (nm : ByteArray) (h : okTo fs fs.length = true) (hl : ¬ lbN fs nm < fs.length) : hasN fs nm = false := by
  unfold hasN
  rw [decide_eq_false_iff_not]
  intro hi
  have e := lb_idx fs nm h hi
  omega

set_option maxHeartbeats 2000000 in
theorem closure (ba bx b off n c : Nat) (nm y : ByteArray) (i : Nat) (W : World) (hi : i < n)
    (ha : W.cell? ⟨ba, 0, none⟩ = some (.slice (some ⟨b, off, none⟩) n c)) (hx : W.cell? ⟨bx, 0, none⟩ = some (.string nm)) (hc : W.cell? ⟨b, off + i * 3, none⟩ = some (.string y)) :
    Calls Try.prog 48 (#[.int .i64 i] ++ #[.pointer (some ⟨ba, 0, none⟩), .pointer (some ⟨bx, 0, none⟩)]) W fun e w' => e = .returned (.bool (!(Op.bytesLess y.toList nm.toList))) ∧ ∃ q, w' = W.drewN q := by
  have hiz : (i : Int) < (n : Int) := by omega
  have hi0 : (0 : Int) ≤ (i : Int) := by omega
  go_enter Try.func48, Try.ntmps48
  go_wp2
  go_quiet (fail)
  go_wp2
  go_ret
  exact ⟨rfl, _, rfl⟩

def Found (fs : List Fl) (nm : ByteArray) (e : Ending) : Prop := e = .returned (.tuple #[.int .i64 (lbN fs nm : Nat), .bool (hasN fs nm)])

set_option maxRecDepth 100000 in
set_option maxHeartbeats 2000000 in
theorem find_own (v : Value) (fs : List Fl) (nm : ByteArray) (w : World) (hv : Files w w.heap.size v fs) (h4k : fs.length ≤ 4096) (hok : okTo fs fs.length = true) :
    Calls Try.prog 25 #[v, .string nm] w fun e w' => Found fs nm e ∧ Below w.heap.size w w' := by
  obtain ⟨a, c, rfl, hl, hs, hc⟩ := hv
  have HH : Hid (lbN fs nm < fs.length → ∃ y, hasN fs nm = (y.toList == nm.toList) ∧ ∃ b off, a = some ⟨b, off, none⟩ ∧ b < w.heap.size ∧ w.cell? ⟨b, off + lbN fs nm * 3, none⟩ = some (.string y)) := by
    intro h
    obtain ⟨b, off, rfl, hb, hcc⟩ := hc (by omega)
    exact ⟨_, has_lb fs nm hok h, b, off, rfl, hb, (hcc _ h).1⟩
  have HN := Lib.hid (has_none fs nm hok)
  obtain ⟨W0, hW0⟩ : ∃ W0, W0 = (w.alloc (.cells #[.slice a fs.length c] 25)).alloc (.cells #[.string nm] 9) := ⟨_, rfl⟩
  have hsize : W0.heap.size = w.heap.size + 1 + 1 := by rw [hW0]; simp
  have ca : W0.cell? ⟨w.heap.size, 0, none⟩ = some (.slice a fs.length c) := by rw [hW0]; exact cell_alloc_sl _ (cell_new_sl w _ _)
  have cx : W0.cell? ⟨w.heap.size + 1, 0, none⟩ = some (.string nm) := by rw [hW0]; have := cell_new_sl (w.alloc (.cells #[.slice a fs.length c] 25)) (.string nm) 9; rwa [World.size_alloc] at this
  have keep : ∀ b o u, b < w.heap.size → w.cell? ⟨b, o, none⟩ = some u → W0.cell? ⟨b, o, none⟩ = some u := fun b o u hb hu => by rw [hW0]; exact cell_alloc_sl _ (cell_alloc_sl _ hu)
  have eg : ∀ args w, (callFunc 48 args).run Try.prog w = .ok (.enter 48 args) w := enters_of Try.func48 (by kernel_rfl) rfl
  have hS := Any.sort_Search search 48 #[.pointer (some ⟨w.heap.size, 0, none⟩), .pointer (some ⟨w.heap.size + 1, 0, none⟩)] fs.length (geA fs nm) W0 eg (by omega)
    (fun m os i hi => by
      obtain ⟨b, off, ha, hb, hcc⟩ := hc (by omega)
      rw [geA_some fs nm i hi]
      refine (closure w.heap.size (w.heap.size + 1) b off fs.length c nm fs[i].nm i _ hi (cell_grown (by show w.heap.size < W0.heap.size; omega) (by rw [← ha]; exact ca) m os) (cell_grown (by show w.heap.size + 1 < W0.heap.size; omega) cx m os) (cell_grown (by show b < W0.heap.size; omega) (keep b _ _ hb (hcc i hi).1) m os)).mono ?_
      rintro e w' ⟨he, q, hq⟩
      exact ⟨he, q, #[], by rw [hq, grow_empty]⟩)
    (fun a b hab hb h => geA_mono fs nm hok a b hab hb h)
  change Calls Try.prog 47 _ _ _ at hS
  have hS' : Calls Try.prog 47 #[.int .i64 fs.length, .func (.func 48) #[] #[.pointer (some ⟨w.heap.size, 0, none⟩), .pointer (some ⟨w.heap.size + 1, 0, none⟩)]] W0 (fun e w' => e = .returned (.int .i64 (lbN fs nm : Nat)) ∧ ∃ q os, w' = grow (W0.drewN q) os) := hS
  have HK := Lib.hid keep
  have hB0 : Below w.heap.size w W0 := by rw [hW0]; exact ((Below.refl _ w).alloc (Nat.le_refl _) _).alloc (by simp) _
  have HB0 := Lib.hid hB0
  have HS1 := Lib.hid hsize
  have hlb := (lb_spec fs nm hok).1
  unfold Found
  have HW := Lib.hid hW0
  clear hS hs hc keep hok hB0 hW0 hsize
  by_cases hlt : lbN fs nm < fs.length
  · obtain ⟨y, hy, b, off, rfl, hb, hcy⟩ := HH.out hlt
    have HY := Lib.hid hy
    generalize lbN fs nm = k at *
    generalize hasN fs nm = hv at *
    have c1 := HK.out b _ _ hb hcy
    have HCA := Lib.hid ca
    have HCX := Lib.hid cx
    have HC1 := Lib.hid c1
    clear c1 ca cx hcy hy
    have t1 : decide ((k : Int) < (fs.length : Int)) = true := by simpa using hlt
    have t2 : (k : Int) < (fs.length : Int) := by omega
    have t3 : (0 : Int) ≤ (k : Int) := by omega
    go_enter Try.func25, Try.ntmps25
    go_wp2_with (go_at_call 47; rw [← HW.out]; refine hS'.mono ?_; rintro e w' ⟨rfl, q, os, rfl⟩; have d1 := cell_grown (by rw [HS1.out]; show w.heap.size < _; omega) HCA.out q os; have d2 := cell_grown (by rw [HS1.out]; show w.heap.size + 1 < _; omega) HCX.out q os; have d3 := cell_grown (by rw [HS1.out]; show b < _; omega) HC1.out q os)
    go_quiet (fail)
    go_wp2
    go_ret2
    exact ⟨by rw [HY.out]; rfl, bdN (HB0.out.trans ((below_grown_sl w.heap.size W0 q os (by rw [HS1.out]; omega)))) _⟩
  · have HY := Lib.hid (HN.out hlt)
    generalize lbN fs nm = k at *
    generalize hasN fs nm = hv at *
    have HCA := Lib.hid ca
    have HCX := Lib.hid cx
    clear ca cx
    have t1 : decide ((k : Int) < (fs.length : Int)) = false := by simpa using hlt
    go_enter Try.func25, Try.ntmps25
    go_wp2_with (go_at_call 47; rw [← HW.out]; refine hS'.mono ?_; rintro e w' ⟨rfl, q, os, rfl⟩; have d1 := cell_grown (by rw [HS1.out]; show w.heap.size < _; omega) HCA.out q os; have d2 := cell_grown (by rw [HS1.out]; show w.heap.size + 1 < _; omega) HCX.out q os)
    go_quiet (fail)
    go_wp2
    go_ret2
    exact ⟨by rw [HY.out]; rfl, bdN (HB0.out.trans ((below_grown_sl w.heap.size W0 q os (by rw [HS1.out]; omega)))) _⟩

end Dk
end Go.Proofs.Ytjgdmdgiicpemaa
