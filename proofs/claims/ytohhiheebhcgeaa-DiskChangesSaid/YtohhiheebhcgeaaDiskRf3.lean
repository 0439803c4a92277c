/-
  The document's with.
-/
import Derived.Test.YtohhiheebhcgeaaDiskRf2
namespace Go.Proofs.Ytohhiheebhcgeaa
open Go.RowKit Go.Lib Go.Sort
namespace Dk
def wthS (f : Fl) (s : List Fl × Bool) (x : Fl) : List Fl × Bool :=
  let q := !s.2 && !(Op.bytesLess x.nm.toList f.nm.toList)
  let l1 := if q then s.1 ++ [f] else s.1
  (if x.nm.toList == f.nm.toList then l1 else l1 ++ [x], s.2 || q)
def wthT (fs : List Fl) (f : Fl) : Nat → List Fl × Bool
  | 0 => ([], false)
  | k + 1 => match fs[k]? with
    | none => wthT fs f k
    | some x => wthS f (wthT fs f k) x
def wthF (fs : List Fl) (f : Fl) : List Fl := if (wthT fs f fs.length).2 then (wthT fs f fs.length).1 else (wthT fs f fs.length).1 ++ [f]
theorem wthT_next (fs : List Fl) (f : Fl) (k : Nat) (h : k < fs.length) : wthT fs f (k + 1) = wthS f (wthT fs f k) fs[k] := by
  rw [wthT, List.getElem?_eq_getElem h]
theorem wthT_len (fs : List Fl) (f : Fl) : ∀ k, k ≤ fs.length → (wthT fs f k).1.length + (if (wthT fs f k).2 then 0 else 1) ≤ k + 1
  | 0, _ => by simp [wthT]
  | k + 1, h => by
    have ih := wthT_len fs f k (by omega)
    rw [wthT_next fs f k (by omega)]
    generalize wthT fs f k = s at *
    rcases s with ⟨l, p⟩
    unfold wthS
    cases p <;> cases (Op.bytesLess fs[k].nm.toList f.nm.toList) <;> cases (fs[k].nm.toList == f.nm.toList) <;> simp at ih ⊢ <;> omega
theorem new_cells (w : World) (x : Fl) : ∀ j u, (encF x)[j]? = some u → (w.alloc (.cells #[.string x.nm, .string x.da, .int .i64 x.sy] 46)).cell? ((⟨w.heap.size, 0, none⟩ : Addr).add j) = some u := by
  intro j u hj
  match j, hj with
  | 0, hj => rw [Addr.add_lit, ← hj]; simp [go_sem, encF]
  | 1, hj => rw [Addr.add_lit, ← hj]; simp [go_sem, encF]
  | 2, hj => rw [Addr.add_lit, ← hj]; simp [go_sem, encF]
  | j + 3, hj => simp [encF] at hj

set_option maxRecDepth 100000 in
set_option maxHeartbeats 8000000 in
theorem with_ref (v : Value) (dn : Bool) (fu : Int) (fs : List Fl) (f : Fl) (w : World) (hv : Files w w.heap.size v fs) (h4 : fs.length ≤ 4096) :
    Calls Try.prog 38 #[.agg #[v, .bool dn, .int .i64 fu], .agg #[.string f.nm, .string f.da, .int .i64 f.sy]] w (CopyIs w (wthF fs f) dn fu) := by
  obtain ⟨a, c, rfl, hl, hfi, hc⟩ := hv
  have HC := Lib.hid hc
  obtain ⟨i0, hi, hz0, hz1, hz2⟩ := info_parts info_file
  clear hc hfi
  rcases f with ⟨fn, fd, fsy⟩
  simp only
  obtain ⟨W2, hW2⟩ : ∃ W2, W2 = ((w.alloc (.cells #[.slice a fs.length c, .bool dn, .int .i64 fu] 24)).alloc (.cells #[.string fn, .string fd, .int .i64 fsy] 46)).alloc (.cells #[.slice none 0 0, .bool false, .int .i64 0] 24) := ⟨_, rfl⟩
  have hD0 : Dx w.heap.size W2 (.slice a fs.length c) dn fu := by rw [hW2]; constructor <;> simp [go_sem]
  have hD1 : Dx (w.heap.size + 1 + 1) W2 (.slice none 0 0) false 0 := by rw [hW2]; constructor <;> simp [go_sem]
  have hF0 : W2.cell? ⟨w.heap.size + 1, 0, none⟩ = some (.string fn) ∧ W2.cell? ⟨w.heap.size + 1, 1, none⟩ = some (.string fd) ∧ W2.cell? ⟨w.heap.size + 1, 2, none⟩ = some (.int .i64 fsy) := by rw [hW2]; refine ⟨?_, ?_, ?_⟩ <;> simp [go_sem]
  have hWB : Below w.heap.size w W2 := by rw [hW2]; exact (((Below.refl _ _).alloc (Nat.le_refl _) _).alloc (by simp) _).alloc (by simp; omega) _
  have hWs : W2.heap.size = w.heap.size + 3 := by rw [hW2]; simp
  have HD0 := Lib.hid hD0
  have HD1 := Lib.hid hD1
  have HF0 := Lib.hid hF0
  have HWB := Lib.hid hWB
  have HWS := Lib.hid hWs
  clear hD0 hD1 hF0 hWB hWs
  unfold CopyIs
  go_enter Try.func38, Try.ntmps38
  go_wp2
  rw [← hW2]
  clear hW2
  go_loopg [12, 5, 6] fs.length (fun g i r p wx => ∃ k : Nat, k + g = fs.length ∧ i = .int .i64 (k : Nat) ∧ p = .bool (wthT fs ⟨fn, fd, fsy⟩ k).2 ∧ Aside (Own wx (w.heap.size + 3) r (wthT fs ⟨fn, fd, fsy⟩ k).1) ∧ Below (w.heap.size + 3) W2 wx)
  case atStart => exact ⟨0, by omega, rfl, rfl, World.ownsRow_nil _ _ _ _, Below.refl _ _⟩
  case round =>
    obtain ⟨k, hkg, rfl, rfl, HO', hbx⟩ := hrel
    have HO : Hid _ := HO'
    have HX := Lib.hid hbx
    have HBW := Lib.hid (HWB.out.trans (hbx.mono (by omega)))
    have hsz : w.heap.size + 3 ≤ wr.heap.size := by have := hbx.size; have := HWS.out; omega
    have hlt1 : w.heap.size + 1 < wr.heap.size := by omega
    obtain ⟨av, cv, rfl⟩ := HO.out.slice
    obtain ⟨d0, d1, d2, f0, f1, f2⟩ := HD0.out.keep hbx (by omega)
    obtain ⟨e0, e1, e2, g0, g1, g2⟩ := HD1.out.keep hbx (by omega)
    have l0 := (hbx.cell (p := ⟨w.heap.size + 1, 0, none⟩) (by show w.heap.size + 1 < _; omega)).trans HF0.out.1
    have l1 := (hbx.cell (p := ⟨w.heap.size + 1, 1, none⟩) (by show w.heap.size + 1 < _; omega)).trans HF0.out.2.1
    have l2 := (hbx.cell (p := ⟨w.heap.size + 1, 2, none⟩) (by show w.heap.size + 1 < _; omega)).trans HF0.out.2.2
    have hln := wthT_len fs ⟨fn, fd, fsy⟩ k (by omega)
    cases gk with
    | zero =>
      obtain rfl : k = fs.length := by omega
      have HFI : Hid (wthF fs ⟨fn, fd, fsy⟩ = if (wthT fs ⟨fn, fd, fsy⟩ fs.length).2 then (wthT fs ⟨fn, fd, fsy⟩ fs.length).1 else (wthT fs ⟨fn, fd, fsy⟩ fs.length).1 ++ [⟨fn, fd, fsy⟩]) := rfl
      generalize wthT fs ⟨fn, fd, fsy⟩ fs.length = s at *
      rcases s with ⟨l, p⟩
      simp only at HO HO' HFI hln
      clear hkg hbx HO'
      cases p
      · rw [if_neg (by simp)] at HFI
        simp at hln
        have HMX := Lib.hid (show l.length + 1 ≤ maxLen by simp only [maxLen]; omega)
        have HBY := Lib.hid (show (l.length + 1) * 40 ≤ 140737488355328 by omega)
        have HOX : Hid (wr.ownsRow (w.heap.size + 3) 46 3 (.slice av l.length cv) l.length (flat l)) := HO.out
        have HAO := Lib.hid (HOX.out.alloc (.cells #[.string fn, .string fd, .int .i64 fsy] 46))
        have EN : Hid (∀ j u, (encF ⟨fn, fd, fsy⟩)[j]? = some u → (wr.alloc (.cells #[.string fn, .string fd, .int .i64 fsy] 46)).cell? ((⟨wr.heap.size, 0, none⟩ : Addr).add j) = some u) := by
          intro j u hj
          match j, hj with
          | 0, hj =>
            rw [Addr.add_lit, ← hj]; simp [go_sem, encF]
          | 1, hj =>
            rw [Addr.add_lit, ← hj]; simp [go_sem, encF]
          | 2, hj =>
            rw [Addr.add_lit, ← hj]; simp [go_sem, encF]
          | j + 3, hj => simp [encF] at hj
        have EO := Lib.hid (encF_one ⟨fn, fd, fsy⟩)
        have ES := Lib.hid (show (w.heap.size + 3) ≤ (wr.alloc (.cells #[.string fn, .string fd, .int .i64 fsy] 46)).heap.size by simp; omega)
        go_wp2_with (at_builtin; go_loud (refine wpList_append_own _ rfl _ _ 22 rfl (w.heap.size + 3) 46 i0 _ 3 40 Try.underlying22 hi hz0 hz1 hz2 rfl (by omega) _ l.length (flat l) rfl HAO.out ⟨wr.heap.size, 0, none⟩ 1 1 (encF ⟨fn, fd, fsy⟩) rfl rfl EN.out EO.out HMX.out HBY.out ES.out ?_; intro v' wE hown hgrow hnil; have hb3 := ((Below.refl (w.heap.size + 3) wr).alloc hsz _).grown hgrow ES.out (fun q hq => (HOX.out.lt q hq).1); have ho3 : Own wE (w.heap.size + 3) v' (l ++ [⟨fn, fd, fsy⟩]) := Own.more hown; have hsl := ho3.slice; simp only [List.length_append, List.length_singleton] at hsl; obtain ⟨av2, cv2, rfl⟩ := hsl; obtain ⟨d0, d1, d2, f0, f1, f2⟩ := HD0.out.keep (HX.out.trans hb3) (by omega); obtain ⟨e0, e1, e2, g0, g1, g2⟩ := HD1.out.keep (HX.out.trans hb3) (by omega); have HO3 := Lib.hid ho3; have HB3 := Lib.hid hb3; clear hown hgrow hnil hb3 ho3))
        refine bodyPost_one rfl (w.heap.size + 1 + 1) (.slice av2 (l.length + 1) cv2) dn fu rfl rfl ?_ ?_ ?_ ?_
        case refine_1 => go_simp
        case refine_2 => go_simp
        case refine_3 => go_simp
        case refine_4 =>
          refine ⟨_, rfl, Own.le (base := w.heap.size + 3) ?_ (by omega), ?_⟩
          · rw [HFI.out]
            repeat (first | exact HO3.out | refine Own.sb ?_ (by first | exact (show w.heap.size < w.heap.size + 3 by omega) | exact (show w.heap.size + 1 + 1 < w.heap.size + 3 by omega)) _)
          · repeat (first | exact HBW.out.trans (HB3.out.mono (by omega)) | refine bset ?_ (by first | exact (show w.heap.size ≤ w.heap.size by omega) | exact (show w.heap.size ≤ w.heap.size + 1 + 1 by omega)) _)
      · rw [if_pos rfl] at HFI
        go_wp2
        refine bodyPost_one rfl (w.heap.size + 1 + 1) (.slice av l.length cv) dn fu rfl rfl ?_ ?_ ?_ ?_
        case refine_1 => go_simp
        case refine_2 => go_simp
        case refine_3 => go_simp
        case refine_4 =>
          refine ⟨_, rfl, Own.le (base := w.heap.size + 3) ?_ (by omega), ?_⟩
          · rw [HFI.out]
            repeat (first | exact HO.out | refine Own.sb ?_ (by first | exact (show w.heap.size < w.heap.size + 3 by omega) | exact (show w.heap.size + 1 + 1 < w.heap.size + 3 by omega)) _)
          · repeat (first | exact HBW.out | refine bset ?_ (by first | exact (show w.heap.size ≤ w.heap.size by omega) | exact (show w.heap.size ≤ w.heap.size + 1 + 1 by omega)) _)
    | succ g =>
      have hlk : k < fs.length := by omega
      have HG := Lib.hid hkg
      have HNX := Lib.hid (wthT_next fs ⟨fn, fd, fsy⟩ k hlk)
      obtain ⟨b, off, rfl, hblt, hcc⟩ := HC.out (by omega)
      obtain ⟨c1, c2', c3⟩ := hcc k hlk
      have k1 := (HBW.out.cell hblt).trans c1
      have k2 := (HBW.out.cell hblt).trans c2'
      have k3 := (HBW.out.cell hblt).trans c3
      have hbl : b < wr.heap.size := by omega
      clear hkg hbx hcc c1 c2' c3
      generalize fs[k] = x at *
      rcases x with ⟨xn, xd, xs⟩
      have HST : Hid (∀ wx (r : Value) (p : Bool) (l2 : List Fl), wthS ⟨fn, fd, fsy⟩ (wthT fs ⟨fn, fd, fsy⟩ k) ⟨xn, xd, xs⟩ = (l2, p) → Own wx (w.heap.size + 3) r l2 → Value.bool p = .bool (wthT fs ⟨fn, fd, fsy⟩ (k + 1)).2 ∧ Aside (Own wx (w.heap.size + 3) r (wthT fs ⟨fn, fd, fsy⟩ (k + 1)).1)) := by
        intro wx r p l2 he ho
        rw [HNX.out, he]
        exact ⟨rfl, ho⟩
      generalize wthT fs ⟨fn, fd, fsy⟩ k = s at *
      rcases s with ⟨l, p⟩
      simp only at HO HO' k1 k2 k3 hln
      clear HNX HO'
      have hll : l.length ≤ k + 1 := by omega
      have t1 : (k : Int) < (fs.length : Int) := by omega
      have HOX : Hid (wr.ownsRow (w.heap.size + 3) 46 3 (.slice av l.length cv) l.length (flat l)) := HO.out
      have HAX := Lib.hid ((HOX.out.alloc (.cells #[.string xn, .string xd, .int .i64 xs] 46)).alloc (.cells #[.string xn, .string xd, .int .i64 xs] 46))
      have HAF := Lib.hid ((HOX.out.alloc (.cells #[.string xn, .string xd, .int .i64 xs] 46)).alloc (.cells #[.string fn, .string fd, .int .i64 fsy] 46))
      have HMX := Lib.hid (show l.length + 1 ≤ maxLen by simp only [maxLen]; omega)
      have HBY := Lib.hid (show (l.length + 1) * 40 ≤ 140737488355328 by omega)
      have HMX2 := Lib.hid (show (l ++ [(⟨fn, fd, fsy⟩ : Fl)]).length + 1 ≤ maxLen by simp only [maxLen, List.length_append, List.length_singleton]; omega)
      have HBY2 := Lib.hid (show ((l ++ [(⟨fn, fd, fsy⟩ : Fl)]).length + 1) * 40 ≤ 140737488355328 by simp only [List.length_append, List.length_singleton]; omega)
      have XN : Hid (∀ j u, (encF ⟨xn, xd, xs⟩)[j]? = some u → ((wr.alloc (.cells #[.string xn, .string xd, .int .i64 xs] 46)).alloc (.cells #[.string xn, .string xd, .int .i64 xs] 46)).cell? ((⟨wr.heap.size + 1, 0, none⟩ : Addr).add j) = some u) := by
        intro j u hj
        match j, hj with
        | 0, hj =>
          rw [Addr.add_lit, ← hj]; simp [go_sem, encF]
        | 1, hj =>
          rw [Addr.add_lit, ← hj]; simp [go_sem, encF]
        | 2, hj =>
          rw [Addr.add_lit, ← hj]; simp [go_sem, encF]
        | j + 3, hj => simp [encF] at hj
      have XO := Lib.hid (encF_one ⟨xn, xd, xs⟩)
      have XS := Lib.hid (show (w.heap.size + 3) ≤ ((wr.alloc (.cells #[.string xn, .string xd, .int .i64 xs] 46)).alloc (.cells #[.string xn, .string xd, .int .i64 xs] 46)).heap.size by simp; omega)
      have FN : Hid (∀ j u, (encF ⟨fn, fd, fsy⟩)[j]? = some u → ((wr.alloc (.cells #[.string xn, .string xd, .int .i64 xs] 46)).alloc (.cells #[.string fn, .string fd, .int .i64 fsy] 46)).cell? ((⟨wr.heap.size + 1, 0, none⟩ : Addr).add j) = some u) := by
        intro j u hj
        match j, hj with
        | 0, hj =>
          rw [Addr.add_lit, ← hj]; simp [go_sem, encF]
        | 1, hj =>
          rw [Addr.add_lit, ← hj]; simp [go_sem, encF]
        | 2, hj =>
          rw [Addr.add_lit, ← hj]; simp [go_sem, encF]
        | j + 3, hj => simp [encF] at hj
      have FO := Lib.hid (encF_one ⟨fn, fd, fsy⟩)
      have FS := Lib.hid (show (w.heap.size + 3) ≤ ((wr.alloc (.cells #[.string xn, .string xd, .int .i64 xs] 46)).alloc (.cells #[.string fn, .string fd, .int .i64 fsy] 46)).heap.size by simp; omega)
      have hbX : ∀ w3 : World, ((wr.alloc (.cells #[.string xn, .string xd, .int .i64 xs] 46)).alloc (.cells #[.string xn, .string xd, .int .i64 xs] 46)).grownBy w3 (Value.slice av l.length cv).ownBlock → Below (w.heap.size + 3) wr w3 := fun w3 hg => (((Below.refl (w.heap.size + 3) wr).alloc hsz _).alloc (by simp; omega) _).grown hg (by simp; omega) (fun q hq => (HOX.out.lt q hq).1)
      have hbF : ∀ w3 : World, ((wr.alloc (.cells #[.string xn, .string xd, .int .i64 xs] 46)).alloc (.cells #[.string fn, .string fd, .int .i64 fsy] 46)).grownBy w3 (Value.slice av l.length cv).ownBlock → Below (w.heap.size + 3) wr w3 ∧ w3.cell? ⟨wr.heap.size, 0, none⟩ = some (.string xn) ∧ w3.cell? ⟨wr.heap.size, 1, none⟩ = some (.string xd) ∧ w3.cell? ⟨wr.heap.size, 2, none⟩ = some (.int .i64 xs) ∧ wr.heap.size < w3.heap.size := fun w3 hg => by
        have hne : some wr.heap.size ≠ (Value.slice av l.length cv).ownBlock := fun e => by have := (HOX.out.lt _ e.symm).2; omega
        refine ⟨(((Below.refl (w.heap.size + 3) wr).alloc hsz _).alloc (by simp; omega) _).grown hg (by simp; omega) (fun q hq => (HOX.out.lt q hq).1), hg.cell (a := ⟨wr.heap.size, 0, none⟩) ?_ hne, hg.cell (a := ⟨wr.heap.size, 1, none⟩) ?_ hne, hg.cell (a := ⟨wr.heap.size, 2, none⟩) ?_ hne, by have := hg.size; simp at this; omega⟩ <;> simp [go_sem]
      have HBX := Lib.hid hbX
      have HBF := Lib.hid hbF
      clear hbX hbF
      cases hq : (xn.toList == fn.toList)
      · have hq2 : ¬ xn.toList = fn.toList := by simpa using hq
        cases p
        · cases hB : Op.bytesLess xn.toList fn.toList
          · go_wp2_with (first | (at_builtin; go_loud (refine wpList_append_own _ rfl _ _ 22 rfl (w.heap.size + 3) 46 i0 _ 3 40 Try.underlying22 hi hz0 hz1 hz2 rfl (by omega) _ l.length (flat l) rfl HAF.out ⟨wr.heap.size + 1, 0, none⟩ 1 1 (encF ⟨fn, fd, fsy⟩) rfl rfl FN.out FO.out HMX.out HBY.out FS.out ?_; intro v' wF hown hgrow hnil; obtain ⟨hb3, x0, x1, x2, x3⟩ := HBF.out wF hgrow; have ho3 : Own wF (w.heap.size + 3) v' (l ++ [⟨fn, fd, fsy⟩]) := Own.more hown; have hsl := ho3.slice; simp only [List.length_append, List.length_singleton] at hsl; obtain ⟨av2, cv2, rfl⟩ := hsl; have HO3 := Lib.hid ho3; have HB3 := Lib.hid hb3; have hl3 : w.heap.size + 3 ≤ wF.heap.size := (by omega); have l0 := (hb3.cell (p := ⟨w.heap.size + 1, 0, none⟩) (by show w.heap.size + 1 < _; omega)).trans l0; clear hown hgrow hnil hb3 ho3 HAF)) | (at_builtin; go_loud (refine wpList_append_own _ rfl _ _ 22 rfl (w.heap.size + 3) 46 i0 _ 3 40 Try.underlying22 hi hz0 hz1 hz2 rfl (by omega) _ (l ++ [(⟨fn, fd, fsy⟩ : Fl)]).length (flat (l ++ [(⟨fn, fd, fsy⟩ : Fl)])) rfl (World.ownsRow.alloc HO3.out (.cells #[.string xn, .string xd, .int .i64 xs] 46)) ⟨wF.heap.size, 0, none⟩ 1 1 (encF ⟨xn, xd, xs⟩) rfl rfl (fun j u hj => (new_cells wF ⟨xn, xd, xs⟩ j u hj)) XO.out HMX2.out HBY2.out (by simp; omega) ?_; intro v' wY hown hgrow hnil; have hb4 := ((Below.refl (w.heap.size + 3) wF).alloc hl3 _).grown hgrow (by simp; omega) (fun q hq => (World.ownsRow.lt HO3.out q hq).1); have ho4 : Own wY (w.heap.size + 3) v' (l ++ [⟨fn, fd, fsy⟩] ++ [⟨xn, xd, xs⟩]) := Own.more hown; have hsl4 := ho4.slice; simp only [List.length_append, List.length_singleton] at hsl4; obtain ⟨av4, cv4, rfl⟩ := hsl4; have HO4 := Lib.hid ho4; have HB4 := Lib.hid hb4; clear hown hgrow hnil hb4 ho4)))
            go_roundg g
            case measure => omega
            case rel => exact (fun (h : _ ∧ _) => ⟨k + 1, by have := HG.out; omega, by go_num, h.1, h.2, HX.out.trans (HB3.out.trans HB4.out)⟩) (HST.out _ _ _ _ (by simp [wthS, hB, hq2]) HO4.out)
          · go_wp2_with (at_builtin; go_loud (refine wpList_append_own _ rfl _ _ 22 rfl (w.heap.size + 3) 46 i0 _ 3 40 Try.underlying22 hi hz0 hz1 hz2 rfl (by omega) _ l.length (flat l) rfl HAX.out ⟨wr.heap.size + 1, 0, none⟩ 1 1 (encF ⟨xn, xd, xs⟩) rfl rfl XN.out XO.out HMX.out HBY.out XS.out ?_; intro v' wX hown hgrow hnil; have hb3 := HBX.out wX hgrow; have ho3 : Own wX (w.heap.size + 3) v' (l ++ [⟨xn, xd, xs⟩]) := Own.more hown; have hsl := ho3.slice; simp only [List.length_append, List.length_singleton] at hsl; obtain ⟨av2, cv2, rfl⟩ := hsl; have HO3 := Lib.hid ho3; have HB3 := Lib.hid hb3; clear hown hgrow hnil hb3 ho3))
            go_roundg g
            case measure => omega
            case rel => exact (fun (h : _ ∧ _) => ⟨k + 1, by have := HG.out; omega, by go_num, h.1, h.2, HX.out.trans HB3.out⟩) (HST.out _ _ _ _ (by simp [wthS, hB, hq2]) HO3.out)
        · go_wp2_with (at_builtin; go_loud (refine wpList_append_own _ rfl _ _ 22 rfl (w.heap.size + 3) 46 i0 _ 3 40 Try.underlying22 hi hz0 hz1 hz2 rfl (by omega) _ l.length (flat l) rfl HAX.out ⟨wr.heap.size + 1, 0, none⟩ 1 1 (encF ⟨xn, xd, xs⟩) rfl rfl XN.out XO.out HMX.out HBY.out XS.out ?_; intro v' wX hown hgrow hnil; have hb3 := HBX.out wX hgrow; have ho3 : Own wX (w.heap.size + 3) v' (l ++ [⟨xn, xd, xs⟩]) := Own.more hown; have hsl := ho3.slice; simp only [List.length_append, List.length_singleton] at hsl; obtain ⟨av2, cv2, rfl⟩ := hsl; have HO3 := Lib.hid ho3; have HB3 := Lib.hid hb3; clear hown hgrow hnil hb3 ho3))
          go_roundg g
          case measure => omega
          case rel => exact (fun (h : _ ∧ _) => ⟨k + 1, by have := HG.out; omega, by go_num, h.1, h.2, HX.out.trans HB3.out⟩) (HST.out _ _ _ _ (by simp [wthS, hq2]) HO3.out)
      · have hq2 : xn.toList = fn.toList := by simpa using hq
        have hB0 := lt_irrefl' fn.toList
        cases p
        · go_wp2_with (at_builtin; go_loud (refine wpList_append_own _ rfl _ _ 22 rfl (w.heap.size + 3) 46 i0 _ 3 40 Try.underlying22 hi hz0 hz1 hz2 rfl (by omega) _ l.length (flat l) rfl HAF.out ⟨wr.heap.size + 1, 0, none⟩ 1 1 (encF ⟨fn, fd, fsy⟩) rfl rfl FN.out FO.out HMX.out HBY.out FS.out ?_; intro v' wF hown hgrow hnil; obtain ⟨hb3, x0, x1, x2, x3⟩ := HBF.out wF hgrow; have ho3 : Own wF (w.heap.size + 3) v' (l ++ [⟨fn, fd, fsy⟩]) := Own.more hown; have hsl := ho3.slice; simp only [List.length_append, List.length_singleton] at hsl; obtain ⟨av2, cv2, rfl⟩ := hsl; have HO3 := Lib.hid ho3; have HB3 := Lib.hid hb3; have hl3 : w.heap.size + 3 ≤ wF.heap.size := (by omega); have l0 := (hb3.cell (p := ⟨w.heap.size + 1, 0, none⟩) (by show w.heap.size + 1 < _; omega)).trans l0; clear hown hgrow hnil hb3 ho3 HAF))
          go_roundg g
          case measure => omega
          case rel => exact (fun (h : _ ∧ _) => ⟨k + 1, by have := HG.out; omega, by go_num, h.1, h.2, HX.out.trans HB3.out⟩) (HST.out _ _ _ _ (by simp [wthS, hB0, hq2]) HO3.out)
        · go_wp2
          go_roundg g
          case measure => omega
          case rel => exact (fun (h : _ ∧ _) => ⟨k + 1, by have := HG.out; omega, by go_num, h.1, h.2, HX.out.alloc hsz _⟩) (HST.out _ _ _ _ (by simp [wthS, hq2]) (HO.out.keep ((Below.refl _ _).alloc (Nat.le_refl _) _)))
end Dk
end Go.Proofs.Ytohhiheebhcgeaa
