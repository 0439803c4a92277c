/-
  SUMS: rig.Sum and the document's Sum.
-/
import Derived.Test.YthbmnkeigmbbdaaGreatRigRoom
import Derived.Test.YthbmnkeigmbbdaaGreatRgA
import Derived.Laws.ResultCell
namespace Go.Proofs.YthbmnkeigmbbdaaGreat
open Go.RowKit
namespace Rg
def sm (f : Tk → Int) : List Tk → Int
  | [] => 0
  | t :: l => f t + sm f l
theorem sm_app (f : Tk → Int) (l m : List Tk) : sm f (l ++ m) = sm f l + sm f m := by
  induction l with
  | nil => simp [sm]
  | cons t l ih => simp only [List.cons_append, sm, ih]; omega
theorem sm_one (f : Tk → Int) (t : Tk) : sm f [t] = f t := by simp [sm]
theorem sm_snoc (f : Tk → Int) (l : List Tk) (k : Nat) (h : k < l.length) : sm f (l.take (k + 1)) = sm f (l.take k) + f l[k] := by
  rw [List.take_succ_eq_append_getElem h, sm_app, sm_one]
def okK (t : Tk) : Bool := uptoB t.z0 t.z1 t.z2 1099511627776
def okT (l : List Tk) : Bool := l.all okK
def sumE (l : List Tk) : Nat := if 32 < l.length then 1 else if okT l = true then 0 else 1
def sumV (f : Tk → Int) (l : List Tk) : Int := if sumE l = 0 then sm f l else 0
theorem ok_snoc (l : List Tk) (k : Nat) (h : k < l.length) : okT (l.take (k + 1)) = (okT (l.take k) && okK l[k]) := by
  unfold okT
  rw [List.take_succ_eq_append_getElem h, List.all_append]; simp
theorem ok_bad (l : List Tk) (k : Nat) (h : k < l.length) (hn : okK l[k] = false) : okT l = false := by
  unfold okT
  rw [← Bool.not_eq_true, List.all_eq_true]
  intro ha
  have := ha _ (List.getElem_mem h)
  rw [hn] at this; cases this
theorem sumE_big (l : List Tk) (h : 32 < l.length) : sumE l = 1 := by unfold sumE; rw [if_pos h]
theorem sumE_bad (l : List Tk) (h : ¬ 32 < l.length) (hk : okT l = false) : sumE l = 1 := by unfold sumE; rw [if_neg h, hk]; rfl
theorem sumE_ok (l : List Tk) (h : ¬ 32 < l.length) (hk : okT l = true) : sumE l = 0 := by unfold sumE; rw [if_neg h, if_pos hk]
theorem sumV_bad (f : Tk → Int) (l : List Tk) (h : sumE l = 1) : sumV f l = 0 := by unfold sumV; rw [h]; rfl
theorem sumV_ok (f : Tk → Int) (l : List Tk) (h : sumE l = 0) : sumV f l = sm f l := by unfold sumV; rw [if_pos h]
theorem sm_le (f : Tk → Int) (l : List Tk) (h : ∀ t ∈ l, 0 ≤ f t ∧ f t ≤ 1099511627776) : 0 ≤ sm f l ∧ sm f l ≤ l.length * 1099511627776 := by
  induction l with
  | nil => simp [sm]
  | cons t l ih =>
    have h1 := ih (fun q hq => h q (List.mem_cons_of_mem _ hq))
    have h2 := h t (List.mem_cons_self ..)
    simp only [sm, List.length_cons]
    omega
theorem sm_all (l : List Tk) (hk : okT l = true) : (0 ≤ sm (·.z0) l ∧ sm (·.z0) l ≤ l.length * 1099511627776) ∧ (0 ≤ sm (·.z1) l ∧ sm (·.z1) l ≤ l.length * 1099511627776) ∧ (0 ≤ sm (·.z2) l ∧ sm (·.z2) l ≤ l.length * 1099511627776) := by
  have h : ∀ t ∈ l, _ := fun t ht => upto_in _ _ _ _ (List.all_eq_true.1 hk t ht)
  exact ⟨sm_le _ _ fun t ht => (h t ht).1, sm_le _ _ fun t ht => (h t ht).2.1, sm_le _ _ fun t ht => (h t ht).2.2⟩
/-- What Sum tells of some tasks. -/
def SumIs (l : List Tk) (e : Ending) : Prop := e = .returned (.tuple #[.agg #[.int .i64 (sumV (·.z0) l), .int .i64 (sumV (·.z1) l), .int .i64 (sumV (·.z2) l)], .int .i64 (sumE l : Nat)])
theorem SumIs.bad {l : List Tk} (h : sumE l = 1) : SumIs l (.returned (.tuple #[.agg #[.int .i64 0, .int .i64 0, .int .i64 0], .int .i64 1])) := by
  unfold SumIs
  rw [sumV_bad _ _ h, sumV_bad _ _ h, sumV_bad _ _ h, h]; rfl
theorem SumIs.ok {l : List Tk} (h : sumE l = 0) : SumIs l (.returned (.tuple #[.agg #[.int .i64 (sm (·.z0) l), .int .i64 (sm (·.z1) l), .int .i64 (sm (·.z2) l)], .int .i64 0])) := by
  unfold SumIs
  rw [sumV_ok _ _ h, sumV_ok _ _ h, sumV_ok _ _ h, h]; rfl

theorem load_arr (w : World) (B : Nat) (z0 z1 z2 : Int) (h0 : w.cell? ⟨B, 0, none⟩ = some (.int .i64 z0)) (h1 : w.cell? ⟨B, 1, none⟩ = some (.int .i64 z1)) (h2 : w.cell? ⟨B, 2, none⟩ = some (.int .i64 z2)) :
    (loadVar 39 ⟨B, 0, none⟩).run Tryz.prog w = .ok (.agg #[.int .i64 z0, .int .i64 z1, .int .i64 z2]) w := by
  have a := Tryz.isAgg39 w
  have b := Tryz.sizeOf39 w
  go_simp
theorem bodyPost_arr {fn : Func} {p u : Tmp} (h : fn.results = #[.cell p 39, .tmp u]) {R : Ending → World → Prop} {a : Act} {w : World} (B : Nat) (z0 z1 z2 : Int) (hd : a.defers = [])
    (hp : a.tmps.getD p undef = .pointer (some ⟨B, 0, none⟩)) (h0 : w.cell? ⟨B, 0, none⟩ = some (.int .i64 z0)) (h1 : w.cell? ⟨B, 1, none⟩ = some (.int .i64 z1)) (h2 : w.cell? ⟨B, 2, none⟩ = some (.int .i64 z2))
    (hR : R (.returned (.tuple #[.agg #[.int .i64 z0, .int .i64 z1, .int .i64 z2], a.tmps.getD u undef])) w) : bodyPost Tryz.prog fn R .ret a w := by
  refine bodyPost_ret ?_ hd hR
  rw [results_cell_tmp h, hp]
  have := load_arr w B z0 z1 z2 h0 h1 h2
  simp [asAddr, this, Result.andThen]

/-- A block of three numbers that the call owns. -/
def Three (w : World) (g : Nat) (a b c : Int) : Prop := w.heap[g]? = some (.cells #[.int .i64 a, .int .i64 b, .int .i64 c] 39 (0, 0))
theorem Three.lt {w : World} {g : Nat} {a b c : Int} (h : Three w g a b c) : g < w.heap.size := by
  rcases Nat.lt_or_ge g w.heap.size with hlt | hge
  · exact hlt
  · unfold Three at h; rw [Array.getElem?_eq_none hge] at h; cases h
theorem Three.cells {w : World} {g : Nat} {a b c : Int} (h : Three w g a b c) : w.cell? ⟨g, 0, none⟩ = some (.int .i64 a) ∧ w.cell? ⟨g, 1, none⟩ = some (.int .i64 b) ∧ w.cell? ⟨g, 2, none⟩ = some (.int .i64 c) ∧
    w.frozen? ⟨g, 0, none⟩ = false ∧ w.frozen? ⟨g, 1, none⟩ = false ∧ w.frozen? ⟨g, 2, none⟩ = false := by
  unfold Three at h
  refine ⟨?_, ?_, ?_, ?_, ?_, ?_⟩ <;> simp [World.cell?, World.frozen?, h]
theorem Three.kept {w w' : World} {g : Nat} {a b c : Int} (h : Three w g a b c) (hb : w'.heap[g]? = w.heap[g]?) : Three w' g a b c := hb.trans h
theorem Three.below {w w' : World} {B g : Nat} {a b c : Int} (h : Three w g a b c) (hb : Below B w w') (hg : g < B) : Three w' g a b c := (hb.block g hg).trans h
theorem Three.set0 {w : World} {g : Nat} {a b c : Int} (h : Three w g a b c) (z : Int) : Three (w.setCell ⟨g, 0, none⟩ (.int .i64 z)) g z b c := by
  unfold Three at *
  simp [World.setCell, Array.getElem?_modify, h]
theorem Three.set1 {w : World} {g : Nat} {a b c : Int} (h : Three w g a b c) (z : Int) : Three (w.setCell ⟨g, 1, none⟩ (.int .i64 z)) g a z c := by
  unfold Three at *
  simp [World.setCell, Array.getElem?_modify, h]
theorem Three.set2 {w : World} {g : Nat} {a b c : Int} (h : Three w g a b c) (z : Int) : Three (w.setCell ⟨g, 2, none⟩ (.int .i64 z)) g a b z := by
  unfold Three at *
  simp [World.setCell, Array.getElem?_modify, h]
theorem Three.far {w : World} {g : Nat} {a b c : Int} (h : Three w g a b c) {p : Addr} (hp : g ≠ p.block) (u : Value) : Three (w.setCell p u) g a b c := (Below.heap_setCell w p u g hp).trans h
theorem Three.made (w : World) (a b c : Int) : Three (w.alloc (.cells #[.int .i64 a, .int .i64 b, .int .i64 c] 39)) w.heap.size a b c := heap_alloc_new w _
theorem Three.alloc {w : World} {g : Nat} {a b c : Int} (h : Three w g a b c) (o : Obj) : Three (w.alloc o) g a b c := (Below.heap_alloc w o g h.lt).trans h
theorem Three.made1 (w : World) (o : Obj) (a b c : Int) : Three ((w.alloc o).alloc (.cells #[.int .i64 a, .int .i64 b, .int .i64 c] 39)) (w.heap.size + 1) a b c := by
  have := Three.made (w.alloc o) a b c
  rwa [World.size_alloc] at this
def pick (k j : Nat) (a b : Int) : Int := if j < k then b else a
set_option maxRecDepth 100000 in
set_option maxHeartbeats 4000000 in
theorem sum_any (v : Value) (l : List Tk) (w : World) (hv : Tasks w w.heap.size v l) :
    Calls Tryz.prog 135 #[v] w fun e w' => SumIs l e ∧ Below w.heap.size w w' := by
  obtain ⟨a, c, rfl, hl, -, hc⟩ := hv
  have HC := Lib.hid hc
  clear hc
  by_cases hbig : (32 : Int) < (l.length : Int)
  · have HN := Lib.hid (sumE_big l (by omega))
    go_enter Tryz.func135, Tryz.ntmps135
    go_wp2
    refine bodyPost_arr rfl w.heap.size 0 0 0 rfl rfl ?_ ?_ ?_ ?_
    case refine_1 => go_simp
    case refine_2 => go_simp
    case refine_3 => go_simp
    case refine_4 => exact ⟨.bad HN.out, one_ _ _⟩
  · have HL := Lib.hid (show ¬ 32 < l.length by omega)
    go_enter Tryz.func135, Tryz.ntmps135
    go_wp2
    go_loopg [15] l.length (fun g i wx => ∃ k : Nat, k + g = l.length ∧ i = .int .i64 k ∧ Aside (okT (l.take k) = true) ∧ Aside (Three wx w.heap.size 0 0 0) ∧ Aside (Three wx (w.heap.size + 1) (sm (·.z0) (l.take k)) (sm (·.z1) (l.take k)) (sm (·.z2) (l.take k))) ∧ Below w.heap.size w wx)
    case atStart => exact ⟨0, by omega, rfl, by show _ = _; simp [okT], (Three.made _ _ _ _).alloc _, Three.made1 _ _ _ _ _, two _ _ _⟩
    case round =>
      obtain ⟨k, hkg, rfl, HA, HB, HD, hbx⟩ := hrel
      have HX := Lib.hid hbx
      obtain ⟨p0, p1, p2, q0, q1, q2⟩ := HB.out.cells
      obtain ⟨r0, r1, r2, s0, s1, s2⟩ := HD.out.cells
      have hszr := HD.out.lt
      cases gk with
      | zero =>
        obtain rfl : k = l.length := by omega
        have HN := Lib.hid (sumE_ok l HL.out (by have := HA.out; rwa [List.take_length] at this))
        rw [List.take_length] at r0 r1 r2
        have HS := Lib.hid (SumIs.ok HN.out)
        generalize sm (·.z0) l = t0 at *
        generalize sm (·.z1) l = t1 at *
        generalize sm (·.z2) l = t2 at *
        clear hkg hbx
        go_wp2
        refine bodyPost_arr rfl w.heap.size t0 t1 t2 rfl rfl ?_ ?_ ?_ ?_
        case refine_1 => go_simp
        case refine_2 => go_simp
        case refine_3 => go_simp
        case refine_4 => exact ⟨HS.out, ((HX.out.setCell (Nat.le_refl _) _).setCell (Nat.le_refl _) _).setCell (Nat.le_refl _) _⟩
      | succ g =>
        have hlk : k < l.length := by omega
        have HG := Lib.hid hkg
        have HOK := Lib.hid (ok_snoc l k hlk)
        have HBAD := Lib.hid (ok_bad l k hlk)
        have HS0 := Lib.hid (sm_snoc (·.z0) l k hlk)
        have HS1 := Lib.hid (sm_snoc (·.z1) l k hlk)
        have HS2 := Lib.hid (sm_snoc (·.z2) l k hlk)
        have HLE := Lib.hid (sm_all (l.take k) HA.out)
        have hk32 : (l.take k).length ≤ 32 := by have := HL.out; rw [List.length_take]; omega
        obtain ⟨b, off, rfl, hblt, hcc⟩ := HC.out (by omega)
        obtain ⟨c0, c1, c2, c3, c4, c5, c6, c7, c8⟩ := hcc k hlk
        have kp : ∀ o, wr.cell? ⟨b, o, none⟩ = w.cell? ⟨b, o, none⟩ := fun o => hbx.cell (by exact hblt)
        rw [← kp] at c0 c1 c2 c3 c4 c5 c6 c7 c8
        clear hkg hbx kp hcc
        generalize l[k] = t at *
        generalize sm (·.z0) (l.take k) = y0 at *
        generalize sm (·.z1) (l.take k) = y1 at *
        generalize sm (·.z2) (l.take k) = y2 at *
        rcases t with ⟨tn, tg, ta, z0, z1, z2, tr, twa, twn, twc, tba, tbn, tbc⟩
        simp only at c0 c1 c2 c3 c4 c5 c6 c7 c8
        have hne : w.heap.size ≠ wr.heap.size := by omega
        have hne2 : w.heap.size + 1 ≠ wr.heap.size := by omega
        have U1 : Hid (∀ w, Calls Tryz.prog 118 #[.agg #[.int .i64 z0, .int .i64 z1, .int .i64 z2], .int .i64 1099511627776] w fun e w' => e = .returned (.bool (uptoB z0 z1 z2 1099511627776)) ∧ Below w.heap.size w w') := fun w => upto_any z0 z1 z2 _ w
        obtain ⟨wo, rfl⟩ : ∃ wo : World, wo = wr := ⟨_, rfl⟩
        cases hup : uptoB z0 z1 z2 1099511627776
        · rw [hup] at U1
          have HN := Lib.hid (sumE_bad l HL.out (HBAD.out hup))
          clear hup
          go_wp2_with fail
          refine (U1.out _).mono ?_
          rintro e w1 ⟨rfl, hb⟩
          have T0 := HB.out.kept (w' := w1) ((hb.block _ (by simp; omega)).trans (Below.heap_alloc _ _ _ (by omega)))
          have HW := Lib.hid ((HX.out.alloc (by omega) _).trans (hb.mono (by simp; omega)))
          obtain ⟨p0', p1', p2', q0', q1', q2'⟩ := T0.cells
          clear hb T0
          go_wp2
          refine bodyPost_arr rfl w.heap.size 0 0 0 rfl rfl ?_ ?_ ?_ ?_
          case refine_1 => go_simp
          case refine_2 => go_simp
          case refine_3 => go_simp
          case refine_4 => exact ⟨.bad HN.out, ((HW.out.setCell (Nat.le_refl _) _).setCell (Nat.le_refl _) _).setCell (Nat.le_refl _) _⟩
        · rw [hup] at U1
          have HK : Hid (okT (l.take (k + 1)) = true) := by
            show _ = _
            rw [HOK.out, HA.out, show okK ⟨tn, tg, ta, z0, z1, z2, tr, twa, twn, twc, tba, tbn, tbc⟩ = true from hup]; rfl
          obtain ⟨⟨e0, e0'⟩, ⟨e1, e1'⟩, e2, e2'⟩ := upto_in _ _ _ _ hup
          obtain ⟨⟨l0, l0'⟩, ⟨l1, l1'⟩, l2, l2'⟩ := HLE.out
          have x0 : IntKind.i64.wrap (y0 + z0) = y0 + z0 := by rw [IntKind.wrap_i64]; omega
          have x1 : IntKind.i64.wrap (y1 + z1) = y1 + z1 := by rw [IntKind.wrap_i64]; omega
          have x2 : IntKind.i64.wrap (y2 + z2) = y2 + z2 := by rw [IntKind.wrap_i64]; omega
          have I0 := arr0 z0 z1 z2
          have I1 := arr1 z0 z1 z2
          have I2 := arr2 z0 z1 z2
          clear hup
          go_wp2_with fail
          refine (U1.out _).mono ?_
          rintro e w1 ⟨rfl, hb⟩
          have T0 := Lib.hid (HB.out.kept (w' := w1) ((hb.block _ (by simp; omega)).trans (Below.heap_alloc _ _ _ (by omega))))
          have T1 := Lib.hid (HD.out.kept (w' := w1) ((hb.block _ (by simp; omega)).trans (Below.heap_alloc _ _ _ (by omega))))
          have HW := Lib.hid ((HX.out.alloc (by omega) _).trans (hb.mono (by simp; omega)))
          have g1 : w1.cell? ⟨wo.heap.size, 1, none⟩ = some (.int .i64 z0) := by rw [hb.cell (by simp)]; simp [go_sem]
          have g2 : w1.cell? ⟨wo.heap.size, 2, none⟩ = some (.int .i64 z1) := by rw [hb.cell (by simp)]; simp [go_sem]
          have g3 : w1.cell? ⟨wo.heap.size, 3, none⟩ = some (.int .i64 z2) := by rw [hb.cell (by simp)]; simp [go_sem]
          clear hb
          go_wp2
          go_loopg [26] 3 (fun g2 i wx => ∃ m : Nat, m + g2 = 3 ∧ i = .int .i64 m ∧ Aside (Three wx w.heap.size 0 0 0) ∧ Aside (Three wx (w.heap.size + 1) (pick m 0 y0 (y0 + z0)) (pick m 1 y1 (y1 + z1)) (pick m 2 y2 (y2 + z2))) ∧ Below w.heap.size w wx)
          case atStart => exact ⟨0, by omega, rfl, T0.out, T1.out, HW.out⟩
          case round =>
            obtain ⟨m, hmg, rfl, HE, HF, hby⟩ := hrel
            have HY := Lib.hid hby
            clear hby
            cases gk with
            | zero =>
              obtain rfl : m = 3 := by omega
              clear hmg
              go_wp2
              go_roundg g
              case measure => omega
              case rel =>
                refine ⟨k + 1, by have := HG.out; omega, by go_num, HK.out, HE.out, ?_, HY.out⟩
                show Three _ _ _ _ _
                rw [HS0.out, HS1.out, HS2.out]
                exact HF.out
            | succ g2 =>
              have HG2 := Lib.hid hmg
              have h3 : m = 0 ∨ m = 1 ∨ m = 2 := by omega
              clear hmg
              rcases h3 with rfl | rfl | rfl
              · obtain ⟨n0, n1, n2, m0, m1, m2⟩ := HF.out.cells
                have N0 : wr.cell? ⟨w.heap.size + 1, 0, none⟩ = some (.int .i64 y0) := n0
                clear n0 n1 n2
                go_wp2
                go_roundg g2
                case measure => omega
                case rel => exact ⟨1, by have := HG2.out; omega, rfl, HE.out.far (by simp) _, HF.out.set0 _, HY.out.setCell (by show w.heap.size ≤ w.heap.size + 1; omega) _⟩
              · obtain ⟨n0, n1, n2, m0, m1, m2⟩ := HF.out.cells
                have N1 : wr.cell? ⟨w.heap.size + 1, 1, none⟩ = some (.int .i64 y1) := n1
                clear n0 n1 n2
                go_wp2
                go_roundg g2
                case measure => omega
                case rel => exact ⟨2, by have := HG2.out; omega, rfl, HE.out.far (by simp) _, HF.out.set1 _, HY.out.setCell (by show w.heap.size ≤ w.heap.size + 1; omega) _⟩
              · obtain ⟨n0, n1, n2, m0, m1, m2⟩ := HF.out.cells
                have N2 : wr.cell? ⟨w.heap.size + 1, 2, none⟩ = some (.int .i64 y2) := n2
                clear n0 n1 n2
                go_wp2
                go_roundg g2
                case measure => omega
                case rel => exact ⟨3, by have := HG2.out; omega, rfl, HE.out.far (by simp) _, HF.out.set2 _, HY.out.setCell (by show w.heap.size ≤ w.heap.size + 1; omega) _⟩
end Rg
end Go.Proofs.YthbmnkeigmbbdaaGreat
