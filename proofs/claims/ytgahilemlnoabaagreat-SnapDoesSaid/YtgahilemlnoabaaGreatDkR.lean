/-
  Merged: DiskRf1, DiskRf2, DiskRf3, DiskMath2, DiskRf4, DiskSyn, DiskDrp, DiskCtr, DiskSwr, DiskAdr, DiskRf5, DiskRf6.
-/
import Derived.Test.YtgahilemlnoabaaGreatDkT
/- The document's name, bad, burnt, without, with. -/
namespace Go.Proofs.YtgahilemlnoabaaGreat
open Go.RowKit Go.Lib Go.Sort
namespace Dk
set_option maxHeartbeats 1000000 in
theorem name_ref (nm : ByteArray) (w : World) : Calls Tryz.prog 93 #[.string nm] w fun e w' => e = .returned (.bool (nmOk nm)) ∧ w' = w := by
  have he : decide ((nm.size : Int) ≤ 32) = decide (nm.size ≤ 32) := decide_eq_decide.2 (by omega)
  unfold nmOk
  cases h1 : nm.toList.isEmpty
  · have h2 : (nm.toList == ([] : List UInt8)) = false := by cases hl : nm.toList with | nil => rw [hl] at h1; simp at h1 | cons a r => rfl
    have h3 : ¬ nm.toList = [] := by simpa using h2
    cases h4 : decide (nm.size ≤ 32)
    · rw [h4] at he
      go_enter Tryz.func93, Tryz.ntmps93
      go_wp2
      go_ret
      exact ⟨by simp, rfl⟩
    · rw [h4] at he
      go_enter Tryz.func93, Tryz.ntmps93
      go_wp2
      go_ret
      exact ⟨by simp, rfl⟩
  · have h2 : (nm.toList == ([] : List UInt8)) = true := by cases hl : nm.toList with | nil => rfl | cons a r => rw [hl] at h1; simp at h1
    have h3 : nm.toList = [] := by simpa using h2
    go_enter Tryz.func93, Tryz.ntmps93
    go_wp2
    go_ret
    exact ⟨by simp, rfl⟩
theorem boxes2' (w : World) (v u : Value) (dn dn2 : Bool) (fu fu2 : Int) :
    Dx w.heap.size ((w.alloc (.cells #[v, .bool dn, .int .i64 fu] 24)).alloc (.cells #[u, .bool dn2, .int .i64 fu2] 24)) v dn fu ∧
    Dx (w.heap.size + 1) ((w.alloc (.cells #[v, .bool dn, .int .i64 fu] 24)).alloc (.cells #[u, .bool dn2, .int .i64 fu2] 24)) u dn2 fu2 ∧
    Below w.heap.size w ((w.alloc (.cells #[v, .bool dn, .int .i64 fu] 24)).alloc (.cells #[u, .bool dn2, .int .i64 fu2] 24)) := by
  refine ⟨?_, ?_, ((Below.refl _ _).alloc (Nat.le_refl _) _).alloc (by simp) _⟩
  · constructor <;> simp [go_sem]
  · constructor <;> simp [go_sem]
/-- What bad hands back. -/
def badO (fs : List Fl) (dn : Bool) (fu : Int) (k : Nat) : Out := if k = 10 then ⟨[], false, 0, 10⟩ else ⟨fs, dn, fu, k⟩
set_option maxRecDepth 100000 in
set_option maxHeartbeats 4000000 in
theorem bad_ref (v : Value) (dn : Bool) (fu : Int) (fs : List Fl) (k : Nat) (w : World) (hv : Files w w.heap.size v fs) (h40 : fs.length * 40 ≤ 140737488355328) :
    Calls Tryz.prog 90 #[.agg #[v, .bool dn, .int .i64 fu], .int .i64 (k : Nat)] w (DoIs w (badO fs dn fu k).fs (badO fs dn fu k).dn (badO fs dn fu k).fu (badO fs dn fu k).r) := by
  have HV := Lib.hid hv
  obtain ⟨a, c, rfl, -⟩ := hv
  have HW := Lib.hid (boxes2' w (.slice a fs.length c) (.slice none 0 0) dn false fu 0)
  unfold badO
  by_cases hk : k = 10
  · subst hk
    rw [if_pos rfl]
    unfold DoIs
    go_enter Tryz.func90, Tryz.ntmps90
    go_wp2
    refine bodyPost_disk rfl (w.heap.size + 1) (.slice none 0 0) false 0 rfl rfl ?_ ?_ ?_ ?_
    case refine_1 => go_simp
    case refine_2 => go_simp
    case refine_3 => go_simp
    case refine_4 =>
      refine ⟨_, rfl, World.ownsRow_nil _ _ _ _, ?_⟩
      · repeat (first | exact HW.out.2.2 | exact (boxes2' w _ _ _ _ _ _).2.2 | refine bset ?_ (show w.heap.size ≤ w.heap.size + 1 by omega) _)
  · rw [if_neg hk]
    have t1 : ((k : Int) == 10) = false := by simp; omega
    have t2 : ¬ ((k : Int) = 10) := by omega
    have h1 := copy_ref _ dn fu fs _ ((HV.out.al (.cells #[.slice a fs.length c, .bool dn, .int .i64 fu] 24)).al (.cells #[.slice none 0 0, .bool false, .int .i64 0] 24)) h40
    unfold CopyIs at h1
    simp only [World.size_alloc] at h1
    unfold DoIs
    go_enter Tryz.func90, Tryz.ntmps90
    go_wp2_with (go_at_call 4; go_loud (refine h1.mono ?_; rintro e w1 ⟨v1, rfl, hown, hb⟩; obtain ⟨a1, c1, rfl⟩ := hown.slice; obtain ⟨d0, d1, d2, f0, f1, f2⟩ := HW.out.2.1.keep hb (by omega); have HO := Lib.hid hown; have HB := Lib.hid (HW.out.2.2.trans (hb.mono (by omega))); clear hown hb))
    refine bodyPost_disk rfl (w.heap.size + 1) (.slice a1 fs.length c1) dn fu rfl rfl ?_ ?_ ?_ ?_
    case refine_1 => go_simp
    case refine_2 => go_simp
    case refine_3 => go_simp
    case refine_4 =>
      refine ⟨_, rfl, Own.le (base := w.heap.size + 1 + 1) ?_ (by omega), ?_⟩
      · repeat (first | exact HO.out | refine Own.sb ?_ (show w.heap.size + 1 < w.heap.size + 1 + 1 by omega) _)
      · repeat (first | exact HB.out | refine bset ?_ (show w.heap.size ≤ w.heap.size + 1 by omega) _)

set_option maxRecDepth 100000 in
set_option maxHeartbeats 4000000 in
theorem burnt_ref (a : Option Addr) (n c : Nat) (dn : Bool) (fu : Int) (w : World) (hlo : -9223372036854775808 ≤ fu) (hhi : fu ≤ 9223372036854775807) :
    Calls Tryz.prog 91 #[.agg #[.slice a n c, .bool dn, .int .i64 fu]] w fun e w' => e = .returned (.tuple #[.agg #[.slice a n c, .bool (if fu = 0 then true else dn), .int .i64 (if 0 < fu then fu - 1 else fu)], .bool (if fu = 0 then false else true)]) ∧ Below w.heap.size w w' := by
  have HW := Lib.hid (fun (v u : Value) (d1 d2 : Bool) (f1 f2 : Int) => (boxes2' w v u d1 d2 f1 f2).2.2)
  by_cases h0 : fu = 0
  · subst h0
    rw [if_pos rfl, if_pos rfl, if_neg (by omega)]
    go_enter Tryz.func91, Tryz.ntmps91
    go_wp2
    refine bodyPost_disk rfl (w.heap.size + 1) (.slice a n c) true 0 rfl rfl ?_ ?_ ?_ ?_
    case refine_1 => go_simp
    case refine_2 => go_simp
    case refine_3 => go_simp
    case refine_4 => exact ⟨rfl, by first | exact HW.out _ _ _ _ _ _ | (repeat (first | exact HW.out _ _ _ _ _ _ | refine bset ?_ (by first | exact (show w.heap.size ≤ w.heap.size by omega) | exact (show w.heap.size ≤ w.heap.size + 1 by omega)) _))⟩
  · rw [if_neg h0, if_neg h0]
    have t1 : (fu == 0) = false := by simpa using h0
    by_cases hp : 0 < fu
    · rw [if_pos hp]
      have t2 : IntKind.i64.wrap (fu - 1) = fu - 1 := by rw [IntKind.wrap_i64]; omega
      go_enter Tryz.func91, Tryz.ntmps91
      go_wp2
      refine bodyPost_disk rfl (w.heap.size + 1) (.slice a n c) dn (fu - 1) rfl rfl ?_ ?_ ?_ ?_
      case refine_1 => go_simp
      case refine_2 => go_simp
      case refine_3 => go_simp
      case refine_4 => exact ⟨rfl, by first | exact HW.out _ _ _ _ _ _ | (repeat (first | exact HW.out _ _ _ _ _ _ | refine bset ?_ (by first | exact (show w.heap.size ≤ w.heap.size by omega) | exact (show w.heap.size ≤ w.heap.size + 1 by omega)) _))⟩
    · rw [if_neg hp]
      have t2 : decide (0 < fu) = false := by simpa using hp
      go_enter Tryz.func91, Tryz.ntmps91
      go_wp2
      refine bodyPost_disk rfl (w.heap.size + 1) (.slice a n c) dn fu rfl rfl ?_ ?_ ?_ ?_
      case refine_1 => go_simp
      case refine_2 => go_simp
      case refine_3 => go_simp
      case refine_4 => exact ⟨rfl, by first | exact HW.out _ _ _ _ _ _ | (repeat (first | exact HW.out _ _ _ _ _ _ | refine bset ?_ (by first | exact (show w.heap.size ≤ w.heap.size by omega) | exact (show w.heap.size ≤ w.heap.size + 1 by omega)) _))⟩
end Dk
end Go.Proofs.YtgahilemlnoabaaGreat

/- The document's without and with. -/
namespace Go.Proofs.YtgahilemlnoabaaGreat
open Go.RowKit Go.Lib Go.Sort
namespace Dk
def woT (fs : List Fl) (nm : ByteArray) (k : Nat) : List Fl := (fs.take k).filter (fun f => !(f.nm.toList == nm.toList))
theorem woT_next (fs : List Fl) (nm : ByteArray) (k : Nat) (h : k < fs.length) : woT fs nm (k + 1) = woT fs nm k ++ (if (fs[k].nm.toList == nm.toList) = true then [] else [fs[k]]) := by
  unfold woT
  rw [List.take_add_one, List.getElem?_eq_getElem h, List.filter_append]
  cases hp : (fs[k].nm.toList == nm.toList) <;> simp [hp]
theorem woT_len (fs : List Fl) (nm : ByteArray) (k : Nat) : (woT fs nm k).length ≤ k := Nat.le_trans (List.length_filter_le _ _) (by rw [List.length_take]; omega)

set_option maxRecDepth 100000 in
set_option maxHeartbeats 4000000 in
theorem without_ref (v : Value) (dn : Bool) (fu : Int) (fs : List Fl) (nm : ByteArray) (w : World) (hv : Files w w.heap.size v fs) (h4 : fs.length ≤ 4096) :
    Calls Tryz.prog 92 #[.agg #[v, .bool dn, .int .i64 fu], .string nm] w (CopyIs w (woT fs nm fs.length) dn fu) := by
  obtain ⟨a, c, rfl, hl, hfi, hc⟩ := hv
  have HC := Lib.hid hc
  have HW := Lib.hid (boxes2' w (.slice a fs.length c) (.slice none 0 0) dn false fu 0)
  obtain ⟨i0, hi, hz0, hz1, hz2⟩ := info_parts info_file
  clear hc hfi
  unfold CopyIs
  go_enter Tryz.func92, Tryz.ntmps92
  go_wp2
  go_loopg [11, 5] fs.length (fun g i r wx => ∃ k : Nat, k + g = fs.length ∧ i = .int .i64 (k : Nat) ∧ Aside (Own wx (w.heap.size + 2) r (woT fs nm k)) ∧ Below (w.heap.size + 2) ((w.alloc (.cells #[.slice a fs.length c, .bool dn, .int .i64 fu] 24)).alloc (.cells #[.slice none 0 0, .bool false, .int .i64 0] 24)) wx)
  case atStart => exact ⟨0, by omega, rfl, World.ownsRow_nil _ _ _ _, Below.refl _ _⟩
  case round =>
    obtain ⟨k, hkg, rfl, HO', hbx⟩ := hrel
    have HO : Hid _ := HO'
    have HX := Lib.hid hbx
    have HBW := Lib.hid (HW.out.2.2.trans (hbx.mono (by omega)))
    have hsz : w.heap.size + 2 ≤ wr.heap.size := by have := hbx.size; simp at this; omega
    obtain ⟨av, cv, rfl⟩ := HO.out.slice
    cases gk with
    | zero =>
      obtain rfl : k = fs.length := by omega
      obtain ⟨d0, d1, d2, f0, f1, f2⟩ := HW.out.1.keep hbx (by omega)
      obtain ⟨e0, e1, e2, g0, g1, g2⟩ := HW.out.2.1.keep hbx (by omega)
      clear hkg hbx HO'
      go_wp2
      refine bodyPost_one rfl (w.heap.size + 1) (.slice av (woT fs nm fs.length).length cv) dn fu rfl rfl ?_ ?_ ?_ ?_
      case refine_1 => go_simp
      case refine_2 => go_simp
      case refine_3 => go_simp
      case refine_4 =>
        refine ⟨_, rfl, Own.le (base := w.heap.size + 2) ?_ (by omega), ?_⟩
        · repeat (first | exact HO.out | refine Own.sb ?_ (by first | exact (show w.heap.size < w.heap.size + 2 by omega) | exact (show w.heap.size + 1 < w.heap.size + 2 by omega)) _)
        · repeat (first | exact HBW.out | refine bset ?_ (by first | exact (show w.heap.size ≤ w.heap.size by omega) | exact (show w.heap.size ≤ w.heap.size + 1 by omega)) _)
    | succ g =>
      have hlk : k < fs.length := by omega
      have HG := Lib.hid hkg
      have HNX := Lib.hid (woT_next fs nm k hlk)
      have HLN := Lib.hid (woT_len fs nm k)
      obtain ⟨b, off, rfl, hblt, hcc⟩ := HC.out (by omega)
      obtain ⟨c1, c2', c3⟩ := hcc k hlk
      have k1 := (HBW.out.cell hblt).trans c1
      have k2 := (HBW.out.cell hblt).trans c2'
      have k3 := (HBW.out.cell hblt).trans c3
      have hbl : b < wr.heap.size := by omega
      clear hkg hbx hcc c1 c2' c3 HO'
      generalize fs[k] = x at *
      rcases x with ⟨xn, xd, xs⟩
      simp only at k1 k2 k3 HNX
      have t1 : (k : Int) < (fs.length : Int) := by omega
      have HMX := Lib.hid (show (woT fs nm k).length + 1 ≤ maxLen by simp only [maxLen]; have := HLN.out; omega)
      have HBY := Lib.hid (show ((woT fs nm k).length + 1) * 40 ≤ 140737488355328 by have := HLN.out; omega)
      have HOX : Hid (wr.ownsRow (w.heap.size + 2) 62 3 (.slice av (woT fs nm k).length cv) (woT fs nm k).length (flat (woT fs nm k))) := HO.out
      have HAO := Lib.hid ((HOX.out.alloc (.cells #[.string xn, .string xd, .int .i64 xs] 62)).alloc (.cells #[.string xn, .string xd, .int .i64 xs] 62))
      have HNW : Hid (∀ j u, (encF ⟨xn, xd, xs⟩)[j]? = some u → ((wr.alloc (.cells #[.string xn, .string xd, .int .i64 xs] 62)).alloc (.cells #[.string xn, .string xd, .int .i64 xs] 62)).cell? ((⟨wr.heap.size + 1, 0, none⟩ : Addr).add j) = some u) := by
        intro j u hj
        match j, hj with
        | 0, hj =>
          rw [Addr.add_lit, ← hj]; simp [go_sem, encF]
        | 1, hj =>
          rw [Addr.add_lit, ← hj]; simp [go_sem, encF]
        | 2, hj =>
          rw [Addr.add_lit, ← hj]; simp [go_sem, encF]
        | j + 3, hj => simp [encF] at hj
      have HON := Lib.hid (encF_one ⟨xn, xd, xs⟩)
      have HBS := Lib.hid (show w.heap.size + 2 ≤ ((wr.alloc (.cells #[.string xn, .string xd, .int .i64 xs] 62)).alloc (.cells #[.string xn, .string xd, .int .i64 xs] 62)).heap.size by simp; omega)
      cases hq : (xn.toList == nm.toList)
      · rw [hq, if_neg (by simp)] at HNX
        have hq2 : ¬ xn.toList = nm.toList := by simpa using hq
        go_wp2_with (at_builtin; go_loud (refine wpList_append_own _ rfl _ _ 22 rfl (w.heap.size + 2) 62 i0 _ 3 40 Tryz.underlying22 hi hz0 hz1 hz2 rfl (by omega) _ (woT fs nm k).length (flat (woT fs nm k)) rfl HAO.out ⟨wr.heap.size + 1, 0, none⟩ 1 1 (encF ⟨xn, xd, xs⟩) rfl rfl HNW.out HON.out HMX.out HBY.out HBS.out ?_; intro v' w3 hown hgrow hnil; have hb3 := (((Below.refl (w.heap.size + 2) wr).alloc hsz _).alloc (by simp; omega) _).grown hgrow HBS.out (fun q hq => (HOX.out.lt q hq).1); have ho3 : Own w3 (w.heap.size + 2) v' (woT fs nm (k + 1)) := (by rw [HNX.out]; exact Own.more hown); obtain ⟨av2, cv2, rfl⟩ := ho3.slice; have HO3 := Lib.hid ho3; have HB3 := Lib.hid hb3; clear hown hgrow hnil hb3 ho3))
        go_roundg g
        case measure => omega
        case rel => exact ⟨k + 1, by have := HG.out; omega, by go_num, HO3.out, HX.out.trans HB3.out⟩
      · rw [hq, if_pos rfl, List.append_nil] at HNX
        have hq2 : xn.toList = nm.toList := by simpa using hq
        go_wp2
        go_roundg g
        case measure => omega
        case rel => exact ⟨k + 1, by have := HG.out; omega, by go_num, by show Own _ _ _ _; rw [HNX.out]; exact HOX.out.alloc _, HX.out.alloc hsz _⟩
end Dk
end Go.Proofs.YtgahilemlnoabaaGreat

/- The document's with. -/
namespace Go.Proofs.YtgahilemlnoabaaGreat
open Go.RowKit Go.Lib Go.Sort
namespace Dk
def wthS (f : Fl) (s : List Fl × Bool) (x : Fl) : List Fl × Bool :=
  let q := !s.2 && !(Op.bytesLess x.nm.toList f.nm.toList)
  let l1 := if q then s.1 ++ [f] else s.1
  (if x.nm.toList == f.nm.toList then l1 else l1 ++ [x], s.2 || q)
def wthT (fs : List Fl) (f : Fl) : Nat → List Fl × Bool
  | 0 => ([], false)
  | k + 1 => match fs[k]? with
    | none => wthT fs f k
    | some x => wthS f (wthT fs f k) x
def wthF (fs : List Fl) (f : Fl) : List Fl := if (wthT fs f fs.length).2 then (wthT fs f fs.length).1 else (wthT fs f fs.length).1 ++ [f]
theorem wthT_next (fs : List Fl) (f : Fl) (k : Nat) (h : k < fs.length) : wthT fs f (k + 1) = wthS f (wthT fs f k) fs[k] := by
  rw [wthT, List.getElem?_eq_getElem h]
theorem wthT_len (fs : List Fl) (f : Fl) : ∀ k, k ≤ fs.length → (wthT fs f k).1.length + (if (wthT fs f k).2 then 0 else 1) ≤ k + 1
  | 0, _ => by simp [wthT]
  | k + 1, h => by
    have ih := wthT_len fs f k (by omega)
    rw [wthT_next fs f k (by omega)]
    generalize wthT fs f k = s at *
    rcases s with ⟨l, p⟩
    unfold wthS
    cases p <;> cases (Op.bytesLess fs[k].nm.toList f.nm.toList) <;> cases (fs[k].nm.toList == f.nm.toList) <;> simp at ih ⊢ <;> omega
theorem new_cells (w : World) (x : Fl) : ∀ j u, (encF x)[j]? = some u → (w.alloc (.cells #[.string x.nm, .string x.da, .int .i64 x.sy] 62)).cell? ((⟨w.heap.size, 0, none⟩ : Addr).add j) = some u := by
  intro j u hj
  match j, hj with
  | 0, hj => rw [Addr.add_lit, ← hj]; simp [go_sem, encF]
  | 1, hj => rw [Addr.add_lit, ← hj]; simp [go_sem, encF]
  | 2, hj => rw [Addr.add_lit, ← hj]; simp [go_sem, encF]
  | j + 3, hj => simp [encF] at hj

set_option maxRecDepth 100000 in
set_option maxHeartbeats 8000000 in
theorem with_ref (v : Value) (dn : Bool) (fu : Int) (fs : List Fl) (f : Fl) (w : World) (hv : Files w w.heap.size v fs) (h4 : fs.length ≤ 4096) :
    Calls Tryz.prog 94 #[.agg #[v, .bool dn, .int .i64 fu], .agg #[.string f.nm, .string f.da, .int .i64 f.sy]] w (CopyIs w (wthF fs f) dn fu) := by
  obtain ⟨a, c, rfl, hl, hfi, hc⟩ := hv
  have HC := Lib.hid hc
  obtain ⟨i0, hi, hz0, hz1, hz2⟩ := info_parts info_file
  clear hc hfi
  rcases f with ⟨fn, fd, fsy⟩
  simp only
  obtain ⟨W2, hW2⟩ : ∃ W2, W2 = ((w.alloc (.cells #[.slice a fs.length c, .bool dn, .int .i64 fu] 24)).alloc (.cells #[.string fn, .string fd, .int .i64 fsy] 62)).alloc (.cells #[.slice none 0 0, .bool false, .int .i64 0] 24) := ⟨_, rfl⟩
  have hD0 : Dx w.heap.size W2 (.slice a fs.length c) dn fu := by rw [hW2]; constructor <;> simp [go_sem]
  have hD1 : Dx (w.heap.size + 1 + 1) W2 (.slice none 0 0) false 0 := by rw [hW2]; constructor <;> simp [go_sem]
  have hF0 : W2.cell? ⟨w.heap.size + 1, 0, none⟩ = some (.string fn) ∧ W2.cell? ⟨w.heap.size + 1, 1, none⟩ = some (.string fd) ∧ W2.cell? ⟨w.heap.size + 1, 2, none⟩ = some (.int .i64 fsy) := by rw [hW2]; refine ⟨?_, ?_, ?_⟩ <;> simp [go_sem]
  have hWB : Below w.heap.size w W2 := by rw [hW2]; exact (((Below.refl _ _).alloc (Nat.le_refl _) _).alloc (by simp) _).alloc (by simp; omega) _
  have hWs : W2.heap.size = w.heap.size + 3 := by rw [hW2]; simp
  have HD0 := Lib.hid hD0
  have HD1 := Lib.hid hD1
  have HF0 := Lib.hid hF0
  have HWB := Lib.hid hWB
  have HWS := Lib.hid hWs
  clear hD0 hD1 hF0 hWB hWs
  unfold CopyIs
  go_enter Tryz.func94, Tryz.ntmps94
  go_wp2
  rw [← hW2]
  clear hW2
  go_loopg [12, 5, 6] fs.length (fun g i r p wx => ∃ k : Nat, k + g = fs.length ∧ i = .int .i64 (k : Nat) ∧ p = .bool (wthT fs ⟨fn, fd, fsy⟩ k).2 ∧ Aside (Own wx (w.heap.size + 3) r (wthT fs ⟨fn, fd, fsy⟩ k).1) ∧ Below (w.heap.size + 3) W2 wx)
  case atStart => exact ⟨0, by omega, rfl, rfl, World.ownsRow_nil _ _ _ _, Below.refl _ _⟩
  case round =>
    obtain ⟨k, hkg, rfl, rfl, HO', hbx⟩ := hrel
    have HO : Hid _ := HO'
    have HX := Lib.hid hbx
    have HBW := Lib.hid (HWB.out.trans (hbx.mono (by omega)))
    have hsz : w.heap.size + 3 ≤ wr.heap.size := by have := hbx.size; have := HWS.out; omega
    have hlt1 : w.heap.size + 1 < wr.heap.size := by omega
    obtain ⟨av, cv, rfl⟩ := HO.out.slice
    obtain ⟨d0, d1, d2, f0, f1, f2⟩ := HD0.out.keep hbx (by omega)
    obtain ⟨e0, e1, e2, g0, g1, g2⟩ := HD1.out.keep hbx (by omega)
    have l0 := (hbx.cell (p := ⟨w.heap.size + 1, 0, none⟩) (by show w.heap.size + 1 < _; omega)).trans HF0.out.1
    have l1 := (hbx.cell (p := ⟨w.heap.size + 1, 1, none⟩) (by show w.heap.size + 1 < _; omega)).trans HF0.out.2.1
    have l2 := (hbx.cell (p := ⟨w.heap.size + 1, 2, none⟩) (by show w.heap.size + 1 < _; omega)).trans HF0.out.2.2
    have hln := wthT_len fs ⟨fn, fd, fsy⟩ k (by omega)
    cases gk with
    | zero =>
      obtain rfl : k = fs.length := by omega
      have HFI : Hid (wthF fs ⟨fn, fd, fsy⟩ = if (wthT fs ⟨fn, fd, fsy⟩ fs.length).2 then (wthT fs ⟨fn, fd, fsy⟩ fs.length).1 else (wthT fs ⟨fn, fd, fsy⟩ fs.length).1 ++ [⟨fn, fd, fsy⟩]) := rfl
      generalize wthT fs ⟨fn, fd, fsy⟩ fs.length = s at *
      rcases s with ⟨l, p⟩
      simp only at HO HO' HFI hln
      clear hkg hbx HO'
      cases p
      · rw [if_neg (by simp)] at HFI
        simp at hln
        have HMX := Lib.hid (show l.length + 1 ≤ maxLen by simp only [maxLen]; omega)
        have HBY := Lib.hid (show (l.length + 1) * 40 ≤ 140737488355328 by omega)
        have HOX : Hid (wr.ownsRow (w.heap.size + 3) 62 3 (.slice av l.length cv) l.length (flat l)) := HO.out
        have HAO := Lib.hid (HOX.out.alloc (.cells #[.string fn, .string fd, .int .i64 fsy] 62))
        have EN : Hid (∀ j u, (encF ⟨fn, fd, fsy⟩)[j]? = some u → (wr.alloc (.cells #[.string fn, .string fd, .int .i64 fsy] 62)).cell? ((⟨wr.heap.size, 0, none⟩ : Addr).add j) = some u) := by
          intro j u hj
          match j, hj with
          | 0, hj =>
            rw [Addr.add_lit, ← hj]; simp [go_sem, encF]
          | 1, hj =>
            rw [Addr.add_lit, ← hj]; simp [go_sem, encF]
          | 2, hj =>
            rw [Addr.add_lit, ← hj]; simp [go_sem, encF]
          | j + 3, hj => simp [encF] at hj
        have EO := Lib.hid (encF_one ⟨fn, fd, fsy⟩)
        have ES := Lib.hid (show (w.heap.size + 3) ≤ (wr.alloc (.cells #[.string fn, .string fd, .int .i64 fsy] 62)).heap.size by simp; omega)
        go_wp2_with (at_builtin; go_loud (refine wpList_append_own _ rfl _ _ 22 rfl (w.heap.size + 3) 62 i0 _ 3 40 Tryz.underlying22 hi hz0 hz1 hz2 rfl (by omega) _ l.length (flat l) rfl HAO.out ⟨wr.heap.size, 0, none⟩ 1 1 (encF ⟨fn, fd, fsy⟩) rfl rfl EN.out EO.out HMX.out HBY.out ES.out ?_; intro v' wE hown hgrow hnil; have hb3 := ((Below.refl (w.heap.size + 3) wr).alloc hsz _).grown hgrow ES.out (fun q hq => (HOX.out.lt q hq).1); have ho3 : Own wE (w.heap.size + 3) v' (l ++ [⟨fn, fd, fsy⟩]) := Own.more hown; have hsl := ho3.slice; simp only [List.length_append, List.length_singleton] at hsl; obtain ⟨av2, cv2, rfl⟩ := hsl; obtain ⟨d0, d1, d2, f0, f1, f2⟩ := HD0.out.keep (HX.out.trans hb3) (by omega); obtain ⟨e0, e1, e2, g0, g1, g2⟩ := HD1.out.keep (HX.out.trans hb3) (by omega); have HO3 := Lib.hid ho3; have HB3 := Lib.hid hb3; clear hown hgrow hnil hb3 ho3))
        refine bodyPost_one rfl (w.heap.size + 1 + 1) (.slice av2 (l.length + 1) cv2) dn fu rfl rfl ?_ ?_ ?_ ?_
        case refine_1 => go_simp
        case refine_2 => go_simp
        case refine_3 => go_simp
        case refine_4 =>
          refine ⟨_, rfl, Own.le (base := w.heap.size + 3) ?_ (by omega), ?_⟩
          · rw [HFI.out]
            repeat (first | exact HO3.out | refine Own.sb ?_ (by first | exact (show w.heap.size < w.heap.size + 3 by omega) | exact (show w.heap.size + 1 + 1 < w.heap.size + 3 by omega)) _)
          · repeat (first | exact HBW.out.trans (HB3.out.mono (by omega)) | refine bset ?_ (by first | exact (show w.heap.size ≤ w.heap.size by omega) | exact (show w.heap.size ≤ w.heap.size + 1 + 1 by omega)) _)
      · rw [if_pos rfl] at HFI
        go_wp2
        refine bodyPost_one rfl (w.heap.size + 1 + 1) (.slice av l.length cv) dn fu rfl rfl ?_ ?_ ?_ ?_
        case refine_1 => go_simp
        case refine_2 => go_simp
        case refine_3 => go_simp
        case refine_4 =>
          refine ⟨_, rfl, Own.le (base := w.heap.size + 3) ?_ (by omega), ?_⟩
          · rw [HFI.out]
            repeat (first | exact HO.out | refine Own.sb ?_ (by first | exact (show w.heap.size < w.heap.size + 3 by omega) | exact (show w.heap.size + 1 + 1 < w.heap.size + 3 by omega)) _)
          · repeat (first | exact HBW.out | refine bset ?_ (by first | exact (show w.heap.size ≤ w.heap.size by omega) | exact (show w.heap.size ≤ w.heap.size + 1 + 1 by omega)) _)
    | succ g =>
      have hlk : k < fs.length := by omega
      have HG := Lib.hid hkg
      have HNX := Lib.hid (wthT_next fs ⟨fn, fd, fsy⟩ k hlk)
      obtain ⟨b, off, rfl, hblt, hcc⟩ := HC.out (by omega)
      obtain ⟨c1, c2', c3⟩ := hcc k hlk
      have k1 := (HBW.out.cell hblt).trans c1
      have k2 := (HBW.out.cell hblt).trans c2'
      have k3 := (HBW.out.cell hblt).trans c3
      have hbl : b < wr.heap.size := by omega
      clear hkg hbx hcc c1 c2' c3
      generalize fs[k] = x at *
      rcases x with ⟨xn, xd, xs⟩
      have HST : Hid (∀ wx (r : Value) (p : Bool) (l2 : List Fl), wthS ⟨fn, fd, fsy⟩ (wthT fs ⟨fn, fd, fsy⟩ k) ⟨xn, xd, xs⟩ = (l2, p) → Own wx (w.heap.size + 3) r l2 → Value.bool p = .bool (wthT fs ⟨fn, fd, fsy⟩ (k + 1)).2 ∧ Aside (Own wx (w.heap.size + 3) r (wthT fs ⟨fn, fd, fsy⟩ (k + 1)).1)) := by
        intro wx r p l2 he ho
        rw [HNX.out, he]
        exact ⟨rfl, ho⟩
      generalize wthT fs ⟨fn, fd, fsy⟩ k = s at *
      rcases s with ⟨l, p⟩
      simp only at HO HO' k1 k2 k3 hln
      clear HNX HO'
      have hll : l.length ≤ k + 1 := by omega
      have t1 : (k : Int) < (fs.length : Int) := by omega
      have HOX : Hid (wr.ownsRow (w.heap.size + 3) 62 3 (.slice av l.length cv) l.length (flat l)) := HO.out
      have HAX := Lib.hid ((HOX.out.alloc (.cells #[.string xn, .string xd, .int .i64 xs] 62)).alloc (.cells #[.string xn, .string xd, .int .i64 xs] 62))
      have HAF := Lib.hid ((HOX.out.alloc (.cells #[.string xn, .string xd, .int .i64 xs] 62)).alloc (.cells #[.string fn, .string fd, .int .i64 fsy] 62))
      have HMX := Lib.hid (show l.length + 1 ≤ maxLen by simp only [maxLen]; omega)
      have HBY := Lib.hid (show (l.length + 1) * 40 ≤ 140737488355328 by omega)
      have HMX2 := Lib.hid (show (l ++ [(⟨fn, fd, fsy⟩ : Fl)]).length + 1 ≤ maxLen by simp only [maxLen, List.length_append, List.length_singleton]; omega)
      have HBY2 := Lib.hid (show ((l ++ [(⟨fn, fd, fsy⟩ : Fl)]).length + 1) * 40 ≤ 140737488355328 by simp only [List.length_append, List.length_singleton]; omega)
      have XN : Hid (∀ j u, (encF ⟨xn, xd, xs⟩)[j]? = some u → ((wr.alloc (.cells #[.string xn, .string xd, .int .i64 xs] 62)).alloc (.cells #[.string xn, .string xd, .int .i64 xs] 62)).cell? ((⟨wr.heap.size + 1, 0, none⟩ : Addr).add j) = some u) := by
        intro j u hj
        match j, hj with
        | 0, hj =>
          rw [Addr.add_lit, ← hj]; simp [go_sem, encF]
        | 1, hj =>
          rw [Addr.add_lit, ← hj]; simp [go_sem, encF]
        | 2, hj =>
          rw [Addr.add_lit, ← hj]; simp [go_sem, encF]
        | j + 3, hj => simp [encF] at hj
      have XO := Lib.hid (encF_one ⟨xn, xd, xs⟩)
      have XS := Lib.hid (show (w.heap.size + 3) ≤ ((wr.alloc (.cells #[.string xn, .string xd, .int .i64 xs] 62)).alloc (.cells #[.string xn, .string xd, .int .i64 xs] 62)).heap.size by simp; omega)
      have FN : Hid (∀ j u, (encF ⟨fn, fd, fsy⟩)[j]? = some u → ((wr.alloc (.cells #[.string xn, .string xd, .int .i64 xs] 62)).alloc (.cells #[.string fn, .string fd, .int .i64 fsy] 62)).cell? ((⟨wr.heap.size + 1, 0, none⟩ : Addr).add j) = some u) := by
        intro j u hj
        match j, hj with
        | 0, hj =>
          rw [Addr.add_lit, ← hj]; simp [go_sem, encF]
        | 1, hj =>
          rw [Addr.add_lit, ← hj]; simp [go_sem, encF]
        | 2, hj =>
          rw [Addr.add_lit, ← hj]; simp [go_sem, encF]
        | j + 3, hj => simp [encF] at hj
      have FO := Lib.hid (encF_one ⟨fn, fd, fsy⟩)
      have FS := Lib.hid (show (w.heap.size + 3) ≤ ((wr.alloc (.cells #[.string xn, .string xd, .int .i64 xs] 62)).alloc (.cells #[.string fn, .string fd, .int .i64 fsy] 62)).heap.size by simp; omega)
      have hbX : ∀ w3 : World, ((wr.alloc (.cells #[.string xn, .string xd, .int .i64 xs] 62)).alloc (.cells #[.string xn, .string xd, .int .i64 xs] 62)).grownBy w3 (Value.slice av l.length cv).ownBlock → Below (w.heap.size + 3) wr w3 := fun w3 hg => (((Below.refl (w.heap.size + 3) wr).alloc hsz _).alloc (by simp; omega) _).grown hg (by simp; omega) (fun q hq => (HOX.out.lt q hq).1)
      have hbF : ∀ w3 : World, ((wr.alloc (.cells #[.string xn, .string xd, .int .i64 xs] 62)).alloc (.cells #[.string fn, .string fd, .int .i64 fsy] 62)).grownBy w3 (Value.slice av l.length cv).ownBlock → Below (w.heap.size + 3) wr w3 ∧ w3.cell? ⟨wr.heap.size, 0, none⟩ = some (.string xn) ∧ w3.cell? ⟨wr.heap.size, 1, none⟩ = some (.string xd) ∧ w3.cell? ⟨wr.heap.size, 2, none⟩ = some (.int .i64 xs) ∧ wr.heap.size < w3.heap.size := fun w3 hg => by
        have hne : some wr.heap.size ≠ (Value.slice av l.length cv).ownBlock := fun e => by have := (HOX.out.lt _ e.symm).2; omega
        refine ⟨(((Below.refl (w.heap.size + 3) wr).alloc hsz _).alloc (by simp; omega) _).grown hg (by simp; omega) (fun q hq => (HOX.out.lt q hq).1), hg.cell (a := ⟨wr.heap.size, 0, none⟩) ?_ hne, hg.cell (a := ⟨wr.heap.size, 1, none⟩) ?_ hne, hg.cell (a := ⟨wr.heap.size, 2, none⟩) ?_ hne, by have := hg.size; simp at this; omega⟩ <;> simp [go_sem]
      have HBX := Lib.hid hbX
      have HBF := Lib.hid hbF
      clear hbX hbF
      cases hq : (xn.toList == fn.toList)
      · have hq2 : ¬ xn.toList = fn.toList := by simpa using hq
        cases p
        · cases hB : Op.bytesLess xn.toList fn.toList
          · go_wp2_with (first | (at_builtin; go_loud (refine wpList_append_own _ rfl _ _ 22 rfl (w.heap.size + 3) 62 i0 _ 3 40 Tryz.underlying22 hi hz0 hz1 hz2 rfl (by omega) _ l.length (flat l) rfl HAF.out ⟨wr.heap.size + 1, 0, none⟩ 1 1 (encF ⟨fn, fd, fsy⟩) rfl rfl FN.out FO.out HMX.out HBY.out FS.out ?_; intro v' wF hown hgrow hnil; obtain ⟨hb3, x0, x1, x2, x3⟩ := HBF.out wF hgrow; have ho3 : Own wF (w.heap.size + 3) v' (l ++ [⟨fn, fd, fsy⟩]) := Own.more hown; have hsl := ho3.slice; simp only [List.length_append, List.length_singleton] at hsl; obtain ⟨av2, cv2, rfl⟩ := hsl; have HO3 := Lib.hid ho3; have HB3 := Lib.hid hb3; have hl3 : w.heap.size + 3 ≤ wF.heap.size := (by omega); have l0 := (hb3.cell (p := ⟨w.heap.size + 1, 0, none⟩) (by show w.heap.size + 1 < _; omega)).trans l0; clear hown hgrow hnil hb3 ho3 HAF)) | (at_builtin; go_loud (refine wpList_append_own _ rfl _ _ 22 rfl (w.heap.size + 3) 62 i0 _ 3 40 Tryz.underlying22 hi hz0 hz1 hz2 rfl (by omega) _ (l ++ [(⟨fn, fd, fsy⟩ : Fl)]).length (flat (l ++ [(⟨fn, fd, fsy⟩ : Fl)])) rfl (World.ownsRow.alloc HO3.out (.cells #[.string xn, .string xd, .int .i64 xs] 62)) ⟨wF.heap.size, 0, none⟩ 1 1 (encF ⟨xn, xd, xs⟩) rfl rfl (fun j u hj => (new_cells wF ⟨xn, xd, xs⟩ j u hj)) XO.out HMX2.out HBY2.out (by simp; omega) ?_; intro v' wY hown hgrow hnil; have hb4 := ((Below.refl (w.heap.size + 3) wF).alloc hl3 _).grown hgrow (by simp; omega) (fun q hq => (World.ownsRow.lt HO3.out q hq).1); have ho4 : Own wY (w.heap.size + 3) v' (l ++ [⟨fn, fd, fsy⟩] ++ [⟨xn, xd, xs⟩]) := Own.more hown; have hsl4 := ho4.slice; simp only [List.length_append, List.length_singleton] at hsl4; obtain ⟨av4, cv4, rfl⟩ := hsl4; have HO4 := Lib.hid ho4; have HB4 := Lib.hid hb4; clear hown hgrow hnil hb4 ho4)))
            go_roundg g
            case measure => omega
            case rel => exact (fun (h : _ ∧ _) => ⟨k + 1, by have := HG.out; omega, by go_num, h.1, h.2, HX.out.trans (HB3.out.trans HB4.out)⟩) (HST.out _ _ _ _ (by simp [wthS, hB, hq2]) HO4.out)
          · go_wp2_with (at_builtin; go_loud (refine wpList_append_own _ rfl _ _ 22 rfl (w.heap.size + 3) 62 i0 _ 3 40 Tryz.underlying22 hi hz0 hz1 hz2 rfl (by omega) _ l.length (flat l) rfl HAX.out ⟨wr.heap.size + 1, 0, none⟩ 1 1 (encF ⟨xn, xd, xs⟩) rfl rfl XN.out XO.out HMX.out HBY.out XS.out ?_; intro v' wX hown hgrow hnil; have hb3 := HBX.out wX hgrow; have ho3 : Own wX (w.heap.size + 3) v' (l ++ [⟨xn, xd, xs⟩]) := Own.more hown; have hsl := ho3.slice; simp only [List.length_append, List.length_singleton] at hsl; obtain ⟨av2, cv2, rfl⟩ := hsl; have HO3 := Lib.hid ho3; have HB3 := Lib.hid hb3; clear hown hgrow hnil hb3 ho3))
            go_roundg g
            case measure => omega
            case rel => exact (fun (h : _ ∧ _) => ⟨k + 1, by have := HG.out; omega, by go_num, h.1, h.2, HX.out.trans HB3.out⟩) (HST.out _ _ _ _ (by simp [wthS, hB, hq2]) HO3.out)
        · go_wp2_with (at_builtin; go_loud (refine wpList_append_own _ rfl _ _ 22 rfl (w.heap.size + 3) 62 i0 _ 3 40 Tryz.underlying22 hi hz0 hz1 hz2 rfl (by omega) _ l.length (flat l) rfl HAX.out ⟨wr.heap.size + 1, 0, none⟩ 1 1 (encF ⟨xn, xd, xs⟩) rfl rfl XN.out XO.out HMX.out HBY.out XS.out ?_; intro v' wX hown hgrow hnil; have hb3 := HBX.out wX hgrow; have ho3 : Own wX (w.heap.size + 3) v' (l ++ [⟨xn, xd, xs⟩]) := Own.more hown; have hsl := ho3.slice; simp only [List.length_append, List.length_singleton] at hsl; obtain ⟨av2, cv2, rfl⟩ := hsl; have HO3 := Lib.hid ho3; have HB3 := Lib.hid hb3; clear hown hgrow hnil hb3 ho3))
          go_roundg g
          case measure => omega
          case rel => exact (fun (h : _ ∧ _) => ⟨k + 1, by have := HG.out; omega, by go_num, h.1, h.2, HX.out.trans HB3.out⟩) (HST.out _ _ _ _ (by simp [wthS, hq2]) HO3.out)
      · have hq2 : xn.toList = fn.toList := by simpa using hq
        have hB0 := lt_irrefl' fn.toList
        cases p
        · go_wp2_with (at_builtin; go_loud (refine wpList_append_own _ rfl _ _ 22 rfl (w.heap.size + 3) 62 i0 _ 3 40 Tryz.underlying22 hi hz0 hz1 hz2 rfl (by omega) _ l.length (flat l) rfl HAF.out ⟨wr.heap.size + 1, 0, none⟩ 1 1 (encF ⟨fn, fd, fsy⟩) rfl rfl FN.out FO.out HMX.out HBY.out FS.out ?_; intro v' wF hown hgrow hnil; obtain ⟨hb3, x0, x1, x2, x3⟩ := HBF.out wF hgrow; have ho3 : Own wF (w.heap.size + 3) v' (l ++ [⟨fn, fd, fsy⟩]) := Own.more hown; have hsl := ho3.slice; simp only [List.length_append, List.length_singleton] at hsl; obtain ⟨av2, cv2, rfl⟩ := hsl; have HO3 := Lib.hid ho3; have HB3 := Lib.hid hb3; have hl3 : w.heap.size + 3 ≤ wF.heap.size := (by omega); have l0 := (hb3.cell (p := ⟨w.heap.size + 1, 0, none⟩) (by show w.heap.size + 1 < _; omega)).trans l0; clear hown hgrow hnil hb3 ho3 HAF))
          go_roundg g
          case measure => omega
          case rel => exact (fun (h : _ ∧ _) => ⟨k + 1, by have := HG.out; omega, by go_num, h.1, h.2, HX.out.trans HB3.out⟩) (HST.out _ _ _ _ (by simp [wthS, hB0, hq2]) HO3.out)
        · go_wp2
          go_roundg g
          case measure => omega
          case rel => exact (fun (h : _ ∧ _) => ⟨k + 1, by have := HG.out; omega, by go_num, h.1, h.2, HX.out.alloc hsz _⟩) (HST.out _ _ _ _ (by simp [wthS, hq2]) (HO.out.keep ((Below.refl _ _).alloc (Nat.le_refl _) _)))
end Dk
end Go.Proofs.YtgahilemlnoabaaGreat

/- The document's with and without, of a sorted list of files. -/
namespace Go.Proofs.YtgahilemlnoabaaGreat
open Go.RowKit Go.Lib Go.Sort
namespace Dk
theorem nm_ne {a b : ByteArray} (h : a ≠ b) : (a.toList == b.toList) = false := by
  cases hb : a.toList == b.toList with
  | false => rfl
  | true => exact absurd (toList_inj (by simpa using hb)) h
theorem wth_lo {fs : List Fl} (h : okTo fs fs.length = true) (f : Fl) : ∀ k, k ≤ lbN fs f.nm → wthT fs f k = (fs.take k, false)
  | 0, _ => by simp [wthT]
  | k + 1, hk => by
    have hle := lb_le fs f.nm h
    have hl : k < fs.length := by omega
    have h1 : Lt fs[k] f := (lb_spec fs f.nm h).2.1 k hl (by omega)
    rw [wthT_next fs f k hl, wth_lo h f k (by omega)]
    have h2 := nm_ne h1.ne
    unfold Lt at h1
    simp only [wthS, h1, h2, Bool.not_true, Bool.and_false, Bool.false_eq_true, if_false, Bool.or_false]
    rw [List.take_add_one, List.getElem?_eq_getElem hl]
    rfl
theorem wth_hi {fs : List Fl} (h : okTo fs fs.length = true) (f : Fl) : ∀ d, lbN fs f.nm + d + 1 ≤ fs.length → wthT fs f (lbN fs f.nm + d + 1) = (fs.take (lbN fs f.nm) ++ f :: ((fs.drop (lbN fs f.nm)).take (d + 1)).filter (fun x => !(x.nm.toList == f.nm.toList)), true)
  | 0, hd => by
    have hl : lbN fs f.nm < fs.length := by omega
    have h1 := (lb_spec fs f.nm h).2.2 (lbN fs f.nm) hl (Nat.le_refl _)
    rw [Nat.add_zero, wthT_next fs f _ hl, wth_lo h f _ (Nat.le_refl _)]
    have e : (fs.drop (lbN fs f.nm)).take (0 + 1) = [fs[lbN fs f.nm]] := by
      rw [List.drop_eq_getElem_cons hl]; rfl
    rw [e]
    simp only [wthS, h1]
    cases hq : (fs[lbN fs f.nm].nm.toList == f.nm.toList) <;> simp [hq]
  | d + 1, hd => by
    have hl : lbN fs f.nm + d + 1 < fs.length := by omega
    rw [show lbN fs f.nm + (d + 1) + 1 = (lbN fs f.nm + d + 1) + 1 by omega, wthT_next fs f _ hl, wth_hi h f d (by omega)]
    have e : (fs.drop (lbN fs f.nm)).take (d + 1 + 1) = (fs.drop (lbN fs f.nm)).take (d + 1) ++ [fs[lbN fs f.nm + d + 1]] := by
      rw [List.take_add_one, List.getElem?_drop, show lbN fs f.nm + (d + 1) = lbN fs f.nm + d + 1 by omega, List.getElem?_eq_getElem hl]
      rfl
    rw [e, List.filter_append]
    simp only [wthS]
    cases hq : (fs[lbN fs f.nm + d + 1].nm.toList == f.nm.toList) <;> simp [hq]
theorem wthF_put {fs : List Fl} (h : okTo fs fs.length = true) (f : Fl) : wthF fs f = putF fs f := by
  have hle := lb_le fs f.nm h
  have hs := ok_srt h
  unfold wthF putF
  by_cases hl : lbN fs f.nm < fs.length
  · have h1 := wth_hi h f (fs.length - lbN fs f.nm - 1) (by omega)
    rw [show lbN fs f.nm + (fs.length - lbN fs f.nm - 1) + 1 = fs.length by omega] at h1
    rw [h1, if_pos rfl]
    have e : (fs.drop (lbN fs f.nm)).take (fs.length - lbN fs f.nm - 1 + 1) = fs.drop (lbN fs f.nm) := by
      rw [List.take_of_length_le]; rw [List.length_drop]; omega
    simp only
    rw [e]
    by_cases hn : idxN fs f.nm < fs.length
    · rw [if_pos hn]
      have hli := lb_idx fs f.nm h hn
      rw [hli]
      have hd := List.drop_eq_getElem_cons hn
      rw [hd, List.filter_cons]
      have e2 : (fs[idxN fs f.nm].nm.toList == f.nm.toList) = true := by rw [idx_nm fs f.nm hn]; simp
      simp only [e2, Bool.not_true, Bool.false_eq_true, if_false]
      have e3 : (fs.drop (idxN fs f.nm + 1)).filter (fun x => !(x.nm.toList == f.nm.toList)) = fs.drop (idxN fs f.nm + 1) := by
        rw [List.filter_eq_self]
        intro x hx
        obtain ⟨i, hi, rfl⟩ := List.getElem_of_mem hx
        rw [List.length_drop] at hi
        rw [List.getElem_drop]
        have := nm_ne (a := fs[idxN fs f.nm + 1 + i].nm) (b := f.nm) (fun e => by
          have := srt_uni hs (i := idxN fs f.nm + 1 + i) (j := idxN fs f.nm) (by omega) hn (e.trans (idx_nm fs f.nm hn).symm)
          omega)
        rw [this]; rfl
      rw [e3, List.set_eq_take_append_cons_drop, if_pos hn]
    · rw [if_neg hn]
      unfold insF
      congr 2
      rw [List.filter_eq_self]
      intro x hx
      have := nm_ne (lb_drop h f hn x hx).ne.symm
      rw [this]; rfl
  · have he : lbN fs f.nm = fs.length := by omega
    have h1 := wth_lo h f fs.length (by omega)
    rw [h1]
    have hn : ¬ idxN fs f.nm < fs.length := by
      have := has_none fs f.nm h hl
      unfold hasN at this
      simpa using this
    rw [if_neg hn, he]
    simp [insF]
theorem woT_del {fs : List Fl} (h : okTo fs fs.length = true) (nm : ByteArray) (hn : idxN fs nm < fs.length) : woT fs nm fs.length = fs.eraseIdx (idxN fs nm) := by
  have hs := ok_srt h
  unfold woT
  rw [List.take_length, List.eraseIdx_eq_take_drop_succ]
  have hd : fs = fs.take (idxN fs nm) ++ fs[idxN fs nm] :: fs.drop (idxN fs nm + 1) := by rw [← List.drop_eq_getElem_cons hn, List.take_append_drop]
  have hall : ∀ i (hi : i < fs.length), i ≠ idxN fs nm → (fs[i].nm.toList == nm.toList) = false := fun i hi hne => nm_ne (fun e => hne (srt_uni hs hi hn (e.trans (idx_nm fs nm hn).symm)))
  have e1 : (fs.take (idxN fs nm)).filter (fun f => !(f.nm.toList == nm.toList)) = fs.take (idxN fs nm) := by
    rw [List.filter_eq_self]
    intro x hx
    obtain ⟨i, hi, rfl⟩ := List.getElem_of_mem hx
    rw [List.length_take] at hi
    rw [List.getElem_take, hall i (by omega) (by omega)]; rfl
  have e2 : (fs.drop (idxN fs nm + 1)).filter (fun f => !(f.nm.toList == nm.toList)) = fs.drop (idxN fs nm + 1) := by
    rw [List.filter_eq_self]
    intro x hx
    obtain ⟨i, hi, rfl⟩ := List.getElem_of_mem hx
    rw [List.length_drop] at hi
    rw [List.getElem_drop, hall _ (by omega) (by omega)]; rfl
  have e3 : (fs[idxN fs nm].nm.toList == nm.toList) = true := by rw [idx_nm fs nm hn]; simp
  conv => lhs; rw [hd]
  rw [List.filter_append, List.filter_cons, e1, e2, e3]
  rfl
end Dk
end Go.Proofs.YtgahilemlnoabaaGreat

/- The document's changes: what they share. -/
namespace Go.Proofs.YtgahilemlnoabaaGreat
open Go.RowKit Go.Lib Go.Sort
namespace Dk
theorem Own.al {w : World} {base : Nat} {v : Value} {fs : List Fl} (h : Own w base v fs) (o : Obj) : Own (w.alloc o) base v fs := h.keep ((Below.refl _ _).alloc (Nat.le_refl _) _)
theorem outO_bad {fs : List Fl} {dn : Bool} {fu : Int} {r : Nat} {ch : List Fl} {ad : Bool} (h : rdN fs dn ≠ 0) : outO fs dn fu r ch ad = badO fs dn fu (rdN fs dn) := by
  unfold outO badO
  rcases rd_cases fs dn with ⟨hk, h'⟩ | ⟨hk, rfl, h'⟩ | ⟨hk, rfl, h'⟩
  · rw [h', if_neg (by omega), if_pos rfl]
  · rw [h', if_pos hk, if_pos rfl, if_neg (by omega)]
  · exact absurd h' h
theorem outO_ref {fs : List Fl} {fu : Int} {r : Nat} {ch : List Fl} {ad : Bool} (h : chkN fs = 0) (hr : r ≠ 0) (h10 : r ≠ 10) : outO fs false fu r ch ad = badO fs false fu r := by
  unfold outO badO
  rw [if_pos h, if_neg (by simp), if_neg hr, if_neg h10]
theorem outO_fus {fs : List Fl} {ch : List Fl} {ad : Bool} (h : chkN fs = 0) : outO fs false 0 0 ch ad = ⟨if ad then ch else fs, true, 0, 8⟩ := by
  unfold outO
  rw [if_pos h, if_neg (by simp), if_pos rfl, if_pos rfl]
theorem outO_run {fs : List Fl} {fu : Int} {ch : List Fl} {ad : Bool} (h : chkN fs = 0) (hf : fu ≠ 0) : outO fs false fu 0 ch ad = ⟨ch, false, if 0 < fu then fu - 1 else fu, 0⟩ := by
  unfold outO
  rw [if_pos h, if_neg (by simp), if_pos rfl, if_neg hf]
/-- The disk's box at w's end, the answer's cell behind it. -/
structure R2 (w x : World) (a : Option Addr) (c : Nat) (dn : Bool) (fu : Int) (fs : List Fl) : Prop where
  st : St w w.heap.size x (.slice a fs.length c) dn fu fs
  res : Dx (w.heap.size + 1) x (.slice none 0 0) false 0
  sz : w.heap.size + 2 ≤ x.heap.size
theorem R2.made {w : World} {a : Option Addr} {c : Nat} {dn : Bool} {fu : Int} {fs : List Fl} (h : Files w w.heap.size (.slice a fs.length c) fs) :
    R2 w ((w.alloc (.cells #[.slice a fs.length c, .bool dn, .int .i64 fu] 24)).alloc (.cells #[.slice none 0 0, .bool false, .int .i64 0] 24)) a c dn fu fs := by
  have hw := boxes2' w (.slice a fs.length c) (.slice none 0 0) dn false fu 0
  exact ⟨⟨Nat.le_refl _, by simp; omega, hw.2.2, hw.1, (h.al _).al _⟩, hw.2.1, by simp⟩
theorem R2.fill {w x x' : World} {a : Option Addr} {c : Nat} {dn : Bool} {fu : Int} {fs : List Fl} (h : R2 w x a c dn fu fs) (hb : Below x.heap.size x x') :
    R2 w x' a c dn fu fs ∧ x'.cell? ⟨w.heap.size, 0, none⟩ = some (.slice a fs.length c) ∧ x'.cell? ⟨w.heap.size, 1, none⟩ = some (.bool dn) ∧ x'.cell? ⟨w.heap.size, 2, none⟩ = some (.int .i64 fu) ∧ Dx (w.heap.size + 1) x' (.slice none 0 0) false 0 ∧ w.heap.size + 1 < x'.heap.size :=
  have hs := h.sz
  have hd := h.res.keep hb (by omega)
  have hz := hb.size
  ⟨⟨h.st.keep hb, hd, by omega⟩, (h.st.keep hb).dx.d0, (h.st.keep hb).dx.d1, (h.st.keep hb).dx.d2, hd, by omega⟩
end Dk
end Go.Proofs.YtgahilemlnoabaaGreat

/- The document's Sync: its ways. -/
namespace Go.Proofs.YtgahilemlnoabaaGreat
open Go.RowKit Go.Lib Go.Sort
namespace Dk

set_option maxRecDepth 100000 in
set_option maxHeartbeats 1500000 in
theorem sync_bad (v : Value) (fs : List Fl) (dn : Bool) (fu : Int) (nm : ByteArray) (_hlo : -9223372036854775808 ≤ fu) (_hhi : fu ≤ 9223372036854775807) (h40 : fs.length * 40 ≤ 140737488355328) (hr0 : rdN fs dn ≠ 0) (w : World) (hv : Files w w.heap.size v fs) :
    Calls Tryz.prog 65 #[.agg #[v, .bool dn, .int .i64 fu], .string nm] w (DoIs w (synO fs dn fu nm).fs (synO fs dn fu nm).dn (synO fs dn fu nm).fu (synO fs dn fu nm).r) := by
  have HV := Lib.hid hv
  obtain ⟨a, c, rfl, -⟩ := hv
  have HR0 := Lib.hid (R2.made (dn := dn) (fu := fu) HV.out)
  have hready := ready_ref _ dn fu fs _ HR0.out.st.files
  rw [show synO fs dn fu nm = badO fs dn fu (rdN fs dn) from outO_bad hr0]
  have HFD : Hid (∀ w1, Files w1 w1.heap.size (.slice a fs.length c) fs → Calls Tryz.prog 39 #[.agg #[.slice a fs.length c, .bool dn, .int .i64 fu], .string nm] w1 fun e w' => e = .returned (.int .i64 (ixZ fs nm)) ∧ Below w1.heap.size w1 w') := fun w1 hf => by
    have := find_ref _ dn fu fs nm w1 hf
    skip
    exact this
  have HBD : Hid (∀ w1, Files w1 w1.heap.size (.slice a fs.length c) fs → Calls Tryz.prog 90 #[.agg #[.slice a fs.length c, .bool dn, .int .i64 fu], .int .i64 (rdN fs dn : Nat)] w1 (DoIs w1 (badO fs dn fu (rdN fs dn : Nat)).fs (badO fs dn fu (rdN fs dn : Nat)).dn (badO fs dn fu (rdN fs dn : Nat)).fu (badO fs dn fu (rdN fs dn : Nat)).r)) := fun w1 hf => bad_ref _ dn fu fs (rdN fs dn : Nat) w1 hf h40
  generalize badO fs dn fu (rdN fs dn : Nat) = B at *
  rcases B with ⟨bf, bd, bu, br⟩
  simp only at HBD
  simp only
  unfold DoIs
  have t1 : ¬ ((rdN fs dn : Nat) : Int) = 0 := by omega
  have t2 : (((rdN fs dn : Nat) : Int) == 0) = false := by simpa using t1
  generalize rdN fs dn = rd at *
  generalize ixZ fs nm = iz at *
  go_enter Tryz.func65, Tryz.ntmps65
  go_wp2_with (go_at_call 89; go_loud (refine hready.mono ?_; rintro e w1 ⟨rfl, hb⟩; obtain ⟨hR, d0, d1, d2, ⟨e0, e1, e2, g0, g1, g2⟩, hlt⟩ := HR0.out.fill hb; have HR1 := Lib.hid hR; clear hb hR))
  go_wp2_with (go_at_call 39; go_loud (refine (HFD.out _ HR1.out.st.files).mono ?_; rintro e w2 ⟨rfl, hb⟩; obtain ⟨hR, d0, d1, d2, ⟨e0, e1, e2, g0, g1, g2⟩, hlt⟩ := HR1.out.fill hb; have HR2 := Lib.hid hR; clear hb hR))
  go_wp2_with (go_at_call 90; go_loud (refine (HBD.out _ HR2.out.st.files).mono ?_; rintro e w9 ⟨v9, rfl, hown, hb⟩; obtain ⟨a9, c9, rfl⟩ := hown.slice; have HO9 := Lib.hid (hown.le HR2.out.sz); have HB9 := Lib.hid (HR2.out.st.below.trans (hb.mono HR2.out.st.below.size)); obtain ⟨-, -, -, -, ⟨e0, e1, e2, g0, g1, g2⟩, hlt⟩ := HR2.out.fill hb; clear hown hb))
  refine bodyPost_disk rfl (w.heap.size + 1) (.slice a9 bf.length c9) bd bu rfl rfl ?_ ?_ ?_ ?_
  case refine_1 => go_simp
  case refine_2 => go_simp
  case refine_3 => go_simp
  case refine_4 =>
    refine ⟨_, rfl, Own.le (base := w.heap.size + 2) ?_ (by omega), ?_⟩
    · repeat (first | exact HO9.out | refine Own.sb ?_ (show w.heap.size + 1 < w.heap.size + 2 by omega) _ | refine Own.al ?_ _)
    · repeat (first | exact HB9.out | refine bset ?_ (show w.heap.size ≤ w.heap.size + 1 by omega) _ | refine Below.alloc ?_ (by simp; omega) _)

set_option maxRecDepth 100000 in
set_option maxHeartbeats 1500000 in
theorem sync_none (v : Value) (fs : List Fl) (fu : Int) (nm : ByteArray) (_hlo : -9223372036854775808 ≤ fu) (_hhi : fu ≤ 9223372036854775807) (h40 : fs.length * 40 ≤ 140737488355328) (h0 : chkN fs = 0) (hn : ¬ idxN fs nm < fs.length) (w : World) (hv : Files w w.heap.size v fs) :
    Calls Tryz.prog 65 #[.agg #[v, .bool false, .int .i64 fu], .string nm] w (DoIs w (synO fs false fu nm).fs (synO fs false fu nm).dn (synO fs false fu nm).fu (synO fs false fu nm).r) := by
  have HV := Lib.hid hv
  obtain ⟨a, c, rfl, -⟩ := hv
  have HR0 := Lib.hid (R2.made (dn := false) (fu := fu) HV.out)
  have hready := ready_ref _ false fu fs _ HR0.out.st.files
  rw [show rdN fs false = 0 from (rd_zero h0)] at hready
  have hix : ixZ fs nm = -1 := by unfold ixZ; rw [if_neg hn]
  rw [show synO fs false fu nm = badO fs false fu 6 by unfold synO; rw [show rsN fs nm = 6 by unfold rsN; rw [if_neg hn]]; exact outO_ref h0 (by omega) (by omega)]
  have HFD : Hid (∀ w1, Files w1 w1.heap.size (.slice a fs.length c) fs → Calls Tryz.prog 39 #[.agg #[.slice a fs.length c, .bool false, .int .i64 fu], .string nm] w1 fun e w' => e = .returned (.int .i64 (-1)) ∧ Below w1.heap.size w1 w') := fun w1 hf => by
    have := find_ref _ false fu fs nm w1 hf
    rw [hix] at this
    exact this
  have HBD : Hid (∀ w1, Files w1 w1.heap.size (.slice a fs.length c) fs → Calls Tryz.prog 90 #[.agg #[.slice a fs.length c, .bool false, .int .i64 fu], .int .i64 6] w1 (DoIs w1 (badO fs false fu 6).fs (badO fs false fu 6).dn (badO fs false fu 6).fu (badO fs false fu 6).r)) := fun w1 hf => bad_ref _ false fu fs 6 w1 hf h40
  generalize badO fs false fu 6 = B at *
  rcases B with ⟨bf, bd, bu, br⟩
  simp only at HBD
  simp only
  unfold DoIs
  go_enter Tryz.func65, Tryz.ntmps65
  go_wp2_with (go_at_call 89; go_loud (refine hready.mono ?_; rintro e w1 ⟨rfl, hb⟩; obtain ⟨hR, d0, d1, d2, ⟨e0, e1, e2, g0, g1, g2⟩, hlt⟩ := HR0.out.fill hb; have HR1 := Lib.hid hR; clear hb hR))
  go_wp2_with (go_at_call 39; go_loud (refine (HFD.out _ HR1.out.st.files).mono ?_; rintro e w2 ⟨rfl, hb⟩; obtain ⟨hR, d0, d1, d2, ⟨e0, e1, e2, g0, g1, g2⟩, hlt⟩ := HR1.out.fill hb; have HR2 := Lib.hid hR; clear hb hR))
  go_wp2_with (go_at_call 90; go_loud (refine (HBD.out _ HR2.out.st.files).mono ?_; rintro e w9 ⟨v9, rfl, hown, hb⟩; obtain ⟨a9, c9, rfl⟩ := hown.slice; have HO9 := Lib.hid (hown.le HR2.out.sz); have HB9 := Lib.hid (HR2.out.st.below.trans (hb.mono HR2.out.st.below.size)); obtain ⟨-, -, -, -, ⟨e0, e1, e2, g0, g1, g2⟩, hlt⟩ := HR2.out.fill hb; clear hown hb))
  refine bodyPost_disk rfl (w.heap.size + 1) (.slice a9 bf.length c9) bd bu rfl rfl ?_ ?_ ?_ ?_
  case refine_1 => go_simp
  case refine_2 => go_simp
  case refine_3 => go_simp
  case refine_4 =>
    refine ⟨_, rfl, Own.le (base := w.heap.size + 2) ?_ (by omega), ?_⟩
    · repeat (first | exact HO9.out | refine Own.sb ?_ (show w.heap.size + 1 < w.heap.size + 2 by omega) _ | refine Own.al ?_ _)
    · repeat (first | exact HB9.out | refine bset ?_ (show w.heap.size ≤ w.heap.size + 1 by omega) _ | refine Below.alloc ?_ (by simp; omega) _)

set_option maxRecDepth 100000 in
set_option maxHeartbeats 1500000 in
theorem sync_fus (v : Value) (fs : List Fl) (nm : ByteArray) (h40 : fs.length * 40 ≤ 140737488355328) (h0 : chkN fs = 0) (hn : idxN fs nm < fs.length) (w : World) (hv : Files w w.heap.size v fs) :
    Calls Tryz.prog 65 #[.agg #[v, .bool false, .int .i64 0], .string nm] w (DoIs w (synO fs false 0 nm).fs (synO fs false 0 nm).dn (synO fs false 0 nm).fu (synO fs false 0 nm).r) := by
  have HV := Lib.hid hv
  obtain ⟨a, c, rfl, -⟩ := hv
  have HR0 := Lib.hid (R2.made (dn := false) (fu := 0) HV.out)
  have hready := ready_ref _ false 0 fs _ HR0.out.st.files
  rw [show rdN fs false = 0 from (rd_zero h0)] at hready
  have hrs : rsN fs nm = 0 := by unfold rsN; rw [if_pos hn]
  have hix : ixZ fs nm = ((idxN fs nm : Nat) : Int) := by unfold ixZ; rw [if_pos hn]
  have hn1 : ((idxN fs nm : Nat) : Int) < (fs.length : Int) := by omega
  have hn2 : (0 : Int) ≤ ((idxN fs nm : Nat) : Int) := by omega
  have hn3 : decide (((idxN fs nm : Nat) : Int) < 0) = false := by simp
  have HFD : Hid (∀ w1, Files w1 w1.heap.size (.slice a fs.length c) fs → Calls Tryz.prog 39 #[.agg #[.slice a fs.length c, .bool false, .int .i64 0], .string nm] w1 fun e w' => e = .returned (.int .i64 ((idxN fs nm : Nat) : Int)) ∧ Below w1.heap.size w1 w') := fun w1 hf => by
    have := find_ref _ false 0 fs nm w1 hf
    rw [hix] at this
    exact this
  have HCP : Hid (∀ w1, Files w1 w1.heap.size (.slice a fs.length c) fs → Calls Tryz.prog 4 #[.agg #[.slice a fs.length c, .bool false, .int .i64 0]] w1 (CopyIs w1 fs false 0)) := fun w1 hf => copy_ref _ false 0 fs w1 hf h40
  rw [show synO fs false 0 nm = ⟨fs, true, 0, 8⟩ by unfold synO; rw [hrs, outO_fus h0]; rfl]
  have HBU : Hid (∀ (a1 : Option Addr) (n1 c1 : Nat) (w1 : World), Calls Tryz.prog 91 #[.agg #[.slice a1 n1 c1, .bool false, .int .i64 0]] w1 fun e w' => e = .returned (.tuple #[.agg #[.slice a1 n1 c1, .bool true, .int .i64 0], .bool false]) ∧ Below w1.heap.size w1 w') := fun a1 n1 c1 w1 => by
    have := burnt_ref a1 n1 c1 false 0 w1 (by omega) (by omega)
    rw [if_pos rfl, if_pos rfl, if_neg (by omega)] at this
    exact this
  simp only
  unfold DoIs
  generalize idxN fs nm = k at *
  go_enter Tryz.func65, Tryz.ntmps65
  go_wp2_with (go_at_call 89; go_loud (refine hready.mono ?_; rintro e w1 ⟨rfl, hb⟩; obtain ⟨hR, d0, d1, d2, ⟨e0, e1, e2, g0, g1, g2⟩, hlt⟩ := HR0.out.fill hb; have HR1 := Lib.hid hR; clear hb hR))
  go_wp2_with (go_at_call 39; go_loud (refine (HFD.out _ HR1.out.st.files).mono ?_; rintro e w2 ⟨rfl, hb⟩; obtain ⟨hR, d0, d1, d2, ⟨e0, e1, e2, g0, g1, g2⟩, hlt⟩ := HR1.out.fill hb; have HR2 := Lib.hid hR; clear hb hR))
  go_wp2_with (first | (go_at_call 4; go_loud (refine (HCP.out _ HR2.out.st.files).mono ?_; rintro e w3 ⟨v3, rfl, hown, hb⟩; obtain ⟨a3, c3, rfl⟩ := hown.slice; have HO3 := Lib.hid (hown.le HR2.out.sz); clear hown; obtain ⟨hR, d0, d1, d2, ⟨e0, e1, e2, g0, g1, g2⟩, hlt⟩ := HR2.out.fill hb; have HR3 := Lib.hid hR; clear hb hR)) | (go_at_call 91; go_loud (refine (HBU.out _ _ _ _).mono ?_; rintro e w4 ⟨rfl, hb⟩; have HO4 := Lib.hid (HO3.out.keep hb); obtain ⟨hR, d0, d1, d2, ⟨e0, e1, e2, g0, g1, g2⟩, hlt⟩ := HR3.out.fill hb; have HR4 := Lib.hid hR; clear hb hR)))
  have HB4 := Lib.hid HR4.out.st.below
  have hs4 := HR4.out.sz
  refine bodyPost_disk rfl (w.heap.size + 1) (.slice a3 fs.length c3) true 0 rfl rfl ?_ ?_ ?_ ?_
  case refine_1 => go_simp
  case refine_2 => go_simp
  case refine_3 => go_simp
  case refine_4 =>
    refine ⟨_, rfl, Own.le (base := w.heap.size + 2) ?_ (by omega), ?_⟩
    · repeat (first | exact HO4.out | refine Own.sb ?_ (show w.heap.size + 1 < w.heap.size + 2 by omega) _ | refine Own.al ?_ _)
    · repeat (first | exact HB4.out | refine bset ?_ (show w.heap.size ≤ w.heap.size + 1 by omega) _ | refine Below.alloc ?_ (by simp; omega) _)

set_option maxRecDepth 100000 in
set_option maxHeartbeats 1500000 in
theorem sync_run (v : Value) (fs : List Fl) (fu : Int) (nm : ByteArray) (hlo : -9223372036854775808 ≤ fu) (hhi : fu ≤ 9223372036854775807) (h40 : fs.length * 40 ≤ 140737488355328) (h0 : chkN fs = 0) (hn : idxN fs nm < fs.length) (hf0 : fu ≠ 0) (w : World) (hv : Files w w.heap.size v fs) :
    Calls Tryz.prog 65 #[.agg #[v, .bool false, .int .i64 fu], .string nm] w (DoIs w (synO fs false fu nm).fs (synO fs false fu nm).dn (synO fs false fu nm).fu (synO fs false fu nm).r) := by
  have HV := Lib.hid hv
  obtain ⟨a, c, rfl, -⟩ := hv
  have HR0 := Lib.hid (R2.made (dn := false) (fu := fu) HV.out)
  have hready := ready_ref _ false fu fs _ HR0.out.st.files
  rw [show rdN fs false = 0 from (rd_zero h0)] at hready
  have hrs : rsN fs nm = 0 := by unfold rsN; rw [if_pos hn]
  have hix : ixZ fs nm = ((idxN fs nm : Nat) : Int) := by unfold ixZ; rw [if_pos hn]
  have hn1 : ((idxN fs nm : Nat) : Int) < (fs.length : Int) := by omega
  have hn2 : (0 : Int) ≤ ((idxN fs nm : Nat) : Int) := by omega
  have hn3 : decide (((idxN fs nm : Nat) : Int) < 0) = false := by simp
  have HFD : Hid (∀ w1, Files w1 w1.heap.size (.slice a fs.length c) fs → Calls Tryz.prog 39 #[.agg #[.slice a fs.length c, .bool false, .int .i64 fu], .string nm] w1 fun e w' => e = .returned (.int .i64 ((idxN fs nm : Nat) : Int)) ∧ Below w1.heap.size w1 w') := fun w1 hf => by
    have := find_ref _ false fu fs nm w1 hf
    rw [hix] at this
    exact this
  have HCP : Hid (∀ w1, Files w1 w1.heap.size (.slice a fs.length c) fs → Calls Tryz.prog 4 #[.agg #[.slice a fs.length c, .bool false, .int .i64 fu]] w1 (CopyIs w1 fs false fu)) := fun w1 hf => copy_ref _ false fu fs w1 hf h40
  obtain ⟨h4, hok⟩ := chk_fine fs h0
  have HF := Lib.hid HV.out.fine
  have hll := HV.out.len
  obtain ⟨fu2, hfu2⟩ : ∃ x : Int, x = (if 0 < fu then fu - 1 else fu) := ⟨_, rfl⟩
  rw [show synO fs false fu nm = ⟨putF fs (synF fs nm), false, fu2, 0⟩ by unfold synO; rw [hrs, outO_run h0 hf0, hfu2]]
  have HBU : Hid (∀ (a1 : Option Addr) (n1 c1 : Nat) (w1 : World), Calls Tryz.prog 91 #[.agg #[.slice a1 n1 c1, .bool false, .int .i64 fu]] w1 fun e w' => e = .returned (.tuple #[.agg #[.slice a1 n1 c1, .bool false, .int .i64 fu2], .bool true]) ∧ Below w1.heap.size w1 w') := fun a1 n1 c1 w1 => by
    have := burnt_ref a1 n1 c1 false fu w1 hlo hhi
    rw [if_neg hf0, if_neg hf0, ← hfu2] at this
    exact this
  have HCE : Hid (∀ (w1 : World) (a1 : Option Addr) (c1 : Nat), Own w1 (w.heap.size + 2) (.slice a1 fs.length c1) fs → ∃ g : Nat, a1 = some ⟨g, 0, none⟩ ∧ g < w1.heap.size ∧ w1.cell? ⟨g, idxN fs nm * 3, none⟩ = some (.string fs[idxN fs nm].nm) ∧ w1.cell? ⟨g, idxN fs nm * 3 + 1, none⟩ = some (.string fs[idxN fs nm].da) ∧ w1.cell? ⟨g, idxN fs nm * 3 + 2, none⟩ = some (.int .i64 fs[idxN fs nm].sy)) := fun w1 a1 c1 ho => by
    obtain ⟨g, cap, he, -, hg, hc, -⟩ := ho.form (by omega)
    simp only [Value.slice.injEq] at he
    obtain ⟨rfl, -, -⟩ := he
    exact ⟨g, rfl, hg, hc _ hn⟩
  have hfs : (⟨fs[idxN fs nm].nm, fs[idxN fs nm].da, (fs[idxN fs nm].da.size : Nat)⟩ : Fl) = synF fs nm := by unfold synF; rw [look_at fs nm hn]; simp only; rw [idx_nm fs nm hn]
  have HWT : Hid (∀ (w1 : World) (a1 : Option Addr) (c1 : Nat), Files w1 w1.heap.size (.slice a1 fs.length c1) fs → Calls Tryz.prog 94 #[.agg #[.slice a1 fs.length c1, .bool false, .int .i64 fu2], .agg #[.string fs[idxN fs nm].nm, .string fs[idxN fs nm].da, .int .i64 (fs[idxN fs nm].da.size : Nat)]] w1 (CopyIs w1 (putF fs (synF fs nm)) false fu2)) := fun w1 a1 c1 hf => by
    have := with_ref (.slice a1 fs.length c1) false fu2 fs ⟨fs[idxN fs nm].nm, fs[idxN fs nm].da, (fs[idxN fs nm].da.size : Nat)⟩ w1 hf h4
    rw [wthF_put hok] at this
    rw [← hfs]
    exact this
  have hsz9 : fs[idxN fs nm].da.size ≤ maxLen := (HF.out _ (List.getElem_mem hn)).1
  clear hfs hfu2
  generalize putF fs (synF fs nm) = fsB at *
  generalize fs[idxN fs nm] = f at *
  rcases f with ⟨xn, xd, xs⟩
  simp only at HCE HWT hsz9
  generalize idxN fs nm = k at *
  simp only
  unfold DoIs
  go_enter Tryz.func65, Tryz.ntmps65
  go_wp2_with (go_at_call 89; go_loud (refine hready.mono ?_; rintro e w1 ⟨rfl, hb⟩; obtain ⟨hR, d0, d1, d2, ⟨e0, e1, e2, g0, g1, g2⟩, hlt⟩ := HR0.out.fill hb; have HR1 := Lib.hid hR; clear hb hR))
  go_wp2_with (go_at_call 39; go_loud (refine (HFD.out _ HR1.out.st.files).mono ?_; rintro e w2 ⟨rfl, hb⟩; obtain ⟨hR, d0, d1, d2, ⟨e0, e1, e2, g0, g1, g2⟩, hlt⟩ := HR1.out.fill hb; have HR2 := Lib.hid hR; clear hb hR))
  go_wp2_with (first | (go_at_call 4; go_loud (refine (HCP.out _ HR2.out.st.files).mono ?_; rintro e w3 ⟨v3, rfl, hown, hb⟩; obtain ⟨a3, c3, rfl⟩ := hown.slice; have HO3 := Lib.hid (hown.le HR2.out.sz); clear hown; obtain ⟨hR, d0, d1, d2, ⟨e0, e1, e2, g0, g1, g2⟩, hlt⟩ := HR2.out.fill hb; have HR3 := Lib.hid hR; clear hb hR)) | (go_at_call 91; go_loud (refine (HBU.out _ _ _ _).mono ?_; rintro e w4 ⟨rfl, hb⟩; have ho4 := HO3.out.keep hb; obtain ⟨g, rfl, hg, q0, q1, q2⟩ := HCE.out _ _ _ ho4; have HO4 := Lib.hid ho4; clear ho4; obtain ⟨hR, d0, d1, d2, ⟨e0, e1, e2, g0, g1, g2⟩, hlt⟩ := HR3.out.fill hb; have HR4 := Lib.hid hR; clear hb hR)) | (go_at_call 94; go_loud (refine (HWT.out _ _ _ (((HO4.out.files HF.out hll).al _).al _)).mono ?_; rintro e w6 ⟨v6, rfl, hown, hb0⟩; obtain ⟨a6, c6, rfl⟩ := hown.slice; have hb : Below w4.heap.size w4 w6 := (((Below.refl _ w4).alloc (Nat.le_refl _) _).alloc (by simp) _).trans (hb0.mono (by simp; omega)); have HO6 := Lib.hid (hown.le (show w.heap.size + 2 ≤ _ by have := HR4.out.sz; simp; omega)); clear hown hb0; obtain ⟨hR, d0, d1, d2, ⟨e0, e1, e2, g0, g1, g2⟩, hlt⟩ := HR4.out.fill hb; have HR6 := Lib.hid hR; clear hb hR; have HB6 := Lib.hid HR6.out.st.below)))
  refine bodyPost_disk rfl (w.heap.size + 1) (.slice a6 fsB.length c6) false fu2 rfl rfl ?_ ?_ ?_ ?_
  case refine_1 => go_simp
  case refine_2 => go_simp
  case refine_3 => go_simp
  case refine_4 =>
    refine ⟨_, rfl, Own.le (base := w.heap.size + 2) ?_ (by omega), ?_⟩
    · repeat (first | exact HO6.out | refine Own.sb ?_ (show w.heap.size + 1 < w.heap.size + 2 by omega) _ | refine Own.al ?_ _)
    · repeat (first | exact HB6.out | refine bset ?_ (show w.heap.size ≤ w.heap.size + 1 by omega) _ | refine Below.alloc ?_ (by simp; omega) _)
end Dk
end Go.Proofs.YtgahilemlnoabaaGreat

/- The document's Drop: its ways. -/
namespace Go.Proofs.YtgahilemlnoabaaGreat
open Go.RowKit Go.Lib Go.Sort
namespace Dk

set_option maxRecDepth 100000 in
set_option maxHeartbeats 1500000 in
theorem drop_bad (v : Value) (fs : List Fl) (dn : Bool) (fu : Int) (nm : ByteArray) (_hlo : -9223372036854775808 ≤ fu) (_hhi : fu ≤ 9223372036854775807) (h40 : fs.length * 40 ≤ 140737488355328) (hr0 : rdN fs dn ≠ 0) (w : World) (hv : Files w w.heap.size v fs) :
    Calls Tryz.prog 63 #[.agg #[v, .bool dn, .int .i64 fu], .string nm] w (DoIs w (drpO fs dn fu nm).fs (drpO fs dn fu nm).dn (drpO fs dn fu nm).fu (drpO fs dn fu nm).r) := by
  have HV := Lib.hid hv
  obtain ⟨a, c, rfl, -⟩ := hv
  have HR0 := Lib.hid (R2.made (dn := dn) (fu := fu) HV.out)
  have hready := ready_ref _ dn fu fs _ HR0.out.st.files
  rw [show drpO fs dn fu nm = badO fs dn fu (rdN fs dn) from outO_bad hr0]
  have HBD : Hid (∀ w1, Files w1 w1.heap.size (.slice a fs.length c) fs → Calls Tryz.prog 90 #[.agg #[.slice a fs.length c, .bool dn, .int .i64 fu], .int .i64 (rdN fs dn : Nat)] w1 (DoIs w1 (badO fs dn fu (rdN fs dn : Nat)).fs (badO fs dn fu (rdN fs dn : Nat)).dn (badO fs dn fu (rdN fs dn : Nat)).fu (badO fs dn fu (rdN fs dn : Nat)).r)) := fun w1 hf => bad_ref _ dn fu fs (rdN fs dn : Nat) w1 hf h40
  generalize badO fs dn fu (rdN fs dn : Nat) = B at *
  rcases B with ⟨bf, bd, bu, br⟩
  simp only at HBD
  simp only
  unfold DoIs
  have t1 : ¬ ((rdN fs dn : Nat) : Int) = 0 := by omega
  have t2 : (((rdN fs dn : Nat) : Int) == 0) = false := by simpa using t1
  generalize rdN fs dn = rd at *
  go_enter Tryz.func63, Tryz.ntmps63
  go_wp2_with (go_at_call 89; go_loud (refine hready.mono ?_; rintro e w1 ⟨rfl, hb⟩; obtain ⟨hR, d0, d1, d2, ⟨e0, e1, e2, g0, g1, g2⟩, hlt⟩ := HR0.out.fill hb; have HR1 := Lib.hid hR; clear hb hR))
  go_wp2_with (go_at_call 90; go_loud (refine (HBD.out _ HR1.out.st.files).mono ?_; rintro e w9 ⟨v9, rfl, hown, hb⟩; obtain ⟨a9, c9, rfl⟩ := hown.slice; have HO9 := Lib.hid (hown.le HR1.out.sz); have HB9 := Lib.hid (HR1.out.st.below.trans (hb.mono HR1.out.st.below.size)); obtain ⟨-, -, -, -, ⟨e0, e1, e2, g0, g1, g2⟩, hlt⟩ := HR1.out.fill hb; clear hown hb))
  refine bodyPost_disk rfl (w.heap.size + 1) (.slice a9 bf.length c9) bd bu rfl rfl ?_ ?_ ?_ ?_
  case refine_1 => go_simp
  case refine_2 => go_simp
  case refine_3 => go_simp
  case refine_4 =>
    refine ⟨_, rfl, Own.le (base := w.heap.size + 2) ?_ (by omega), ?_⟩
    · repeat (first | exact HO9.out | refine Own.sb ?_ (show w.heap.size + 1 < w.heap.size + 2 by omega) _ | refine Own.al ?_ _)
    · repeat (first | exact HB9.out | refine bset ?_ (show w.heap.size ≤ w.heap.size + 1 by omega) _ | refine Below.alloc ?_ (by simp; omega) _)

set_option maxRecDepth 100000 in
set_option maxHeartbeats 1500000 in
theorem drop_none (v : Value) (fs : List Fl) (fu : Int) (nm : ByteArray) (_hlo : -9223372036854775808 ≤ fu) (_hhi : fu ≤ 9223372036854775807) (h40 : fs.length * 40 ≤ 140737488355328) (h0 : chkN fs = 0) (hn : ¬ idxN fs nm < fs.length) (w : World) (hv : Files w w.heap.size v fs) :
    Calls Tryz.prog 63 #[.agg #[v, .bool false, .int .i64 fu], .string nm] w (DoIs w (drpO fs false fu nm).fs (drpO fs false fu nm).dn (drpO fs false fu nm).fu (drpO fs false fu nm).r) := by
  have HV := Lib.hid hv
  obtain ⟨a, c, rfl, -⟩ := hv
  have HR0 := Lib.hid (R2.made (dn := false) (fu := fu) HV.out)
  have hready := ready_ref _ false fu fs _ HR0.out.st.files
  rw [show rdN fs false = 0 from (rd_zero h0)] at hready
  have hix : ixZ fs nm = -1 := by unfold ixZ; rw [if_neg hn]
  rw [show drpO fs false fu nm = badO fs false fu 6 by unfold drpO; rw [show rsN fs nm = 6 by unfold rsN; rw [if_neg hn]]; exact outO_ref h0 (by omega) (by omega)]
  have HFD : Hid (∀ w1, Files w1 w1.heap.size (.slice a fs.length c) fs → Calls Tryz.prog 39 #[.agg #[.slice a fs.length c, .bool false, .int .i64 fu], .string nm] w1 fun e w' => e = .returned (.int .i64 (-1)) ∧ Below w1.heap.size w1 w') := fun w1 hf => by
    have := find_ref _ false fu fs nm w1 hf
    rw [hix] at this
    exact this
  have HBD : Hid (∀ w1, Files w1 w1.heap.size (.slice a fs.length c) fs → Calls Tryz.prog 90 #[.agg #[.slice a fs.length c, .bool false, .int .i64 fu], .int .i64 6] w1 (DoIs w1 (badO fs false fu 6).fs (badO fs false fu 6).dn (badO fs false fu 6).fu (badO fs false fu 6).r)) := fun w1 hf => bad_ref _ false fu fs 6 w1 hf h40
  generalize badO fs false fu 6 = B at *
  rcases B with ⟨bf, bd, bu, br⟩
  simp only at HBD
  simp only
  unfold DoIs
  go_enter Tryz.func63, Tryz.ntmps63
  go_wp2_with (go_at_call 89; go_loud (refine hready.mono ?_; rintro e w1 ⟨rfl, hb⟩; obtain ⟨hR, d0, d1, d2, ⟨e0, e1, e2, g0, g1, g2⟩, hlt⟩ := HR0.out.fill hb; have HR1 := Lib.hid hR; clear hb hR))
  go_wp2_with (go_at_call 39; go_loud (refine (HFD.out _ HR1.out.st.files).mono ?_; rintro e w2 ⟨rfl, hb⟩; obtain ⟨hR, d0, d1, d2, ⟨e0, e1, e2, g0, g1, g2⟩, hlt⟩ := HR1.out.fill hb; have HR2 := Lib.hid hR; clear hb hR))
  go_wp2_with (go_at_call 90; go_loud (refine (HBD.out _ HR2.out.st.files).mono ?_; rintro e w9 ⟨v9, rfl, hown, hb⟩; obtain ⟨a9, c9, rfl⟩ := hown.slice; have HO9 := Lib.hid (hown.le HR2.out.sz); have HB9 := Lib.hid (HR2.out.st.below.trans (hb.mono HR2.out.st.below.size)); obtain ⟨-, -, -, -, ⟨e0, e1, e2, g0, g1, g2⟩, hlt⟩ := HR2.out.fill hb; clear hown hb))
  refine bodyPost_disk rfl (w.heap.size + 1) (.slice a9 bf.length c9) bd bu rfl rfl ?_ ?_ ?_ ?_
  case refine_1 => go_simp
  case refine_2 => go_simp
  case refine_3 => go_simp
  case refine_4 =>
    refine ⟨_, rfl, Own.le (base := w.heap.size + 2) ?_ (by omega), ?_⟩
    · repeat (first | exact HO9.out | refine Own.sb ?_ (show w.heap.size + 1 < w.heap.size + 2 by omega) _ | refine Own.al ?_ _)
    · repeat (first | exact HB9.out | refine bset ?_ (show w.heap.size ≤ w.heap.size + 1 by omega) _ | refine Below.alloc ?_ (by simp; omega) _)

set_option maxRecDepth 100000 in
set_option maxHeartbeats 1500000 in
theorem drop_fus (v : Value) (fs : List Fl) (nm : ByteArray) (h40 : fs.length * 40 ≤ 140737488355328) (h0 : chkN fs = 0) (hn : idxN fs nm < fs.length) (w : World) (hv : Files w w.heap.size v fs) :
    Calls Tryz.prog 63 #[.agg #[v, .bool false, .int .i64 0], .string nm] w (DoIs w (drpO fs false 0 nm).fs (drpO fs false 0 nm).dn (drpO fs false 0 nm).fu (drpO fs false 0 nm).r) := by
  have HV := Lib.hid hv
  obtain ⟨a, c, rfl, -⟩ := hv
  have HR0 := Lib.hid (R2.made (dn := false) (fu := 0) HV.out)
  have hready := ready_ref _ false 0 fs _ HR0.out.st.files
  rw [show rdN fs false = 0 from (rd_zero h0)] at hready
  have hrs : rsN fs nm = 0 := by unfold rsN; rw [if_pos hn]
  have hix : ixZ fs nm = ((idxN fs nm : Nat) : Int) := by unfold ixZ; rw [if_pos hn]
  have hn1 : ((idxN fs nm : Nat) : Int) < (fs.length : Int) := by omega
  have hn2 : (0 : Int) ≤ ((idxN fs nm : Nat) : Int) := by omega
  have hn3 : decide (((idxN fs nm : Nat) : Int) < 0) = false := by simp
  have HFD : Hid (∀ w1, Files w1 w1.heap.size (.slice a fs.length c) fs → Calls Tryz.prog 39 #[.agg #[.slice a fs.length c, .bool false, .int .i64 0], .string nm] w1 fun e w' => e = .returned (.int .i64 ((idxN fs nm : Nat) : Int)) ∧ Below w1.heap.size w1 w') := fun w1 hf => by
    have := find_ref _ false 0 fs nm w1 hf
    rw [hix] at this
    exact this
  have HCP : Hid (∀ w1, Files w1 w1.heap.size (.slice a fs.length c) fs → Calls Tryz.prog 4 #[.agg #[.slice a fs.length c, .bool false, .int .i64 0]] w1 (CopyIs w1 fs false 0)) := fun w1 hf => copy_ref _ false 0 fs w1 hf h40
  rw [show drpO fs false 0 nm = ⟨fs, true, 0, 8⟩ by unfold drpO; rw [hrs, outO_fus h0]; rfl]
  have HBU : Hid (∀ (a1 : Option Addr) (n1 c1 : Nat) (w1 : World), Calls Tryz.prog 91 #[.agg #[.slice a1 n1 c1, .bool false, .int .i64 0]] w1 fun e w' => e = .returned (.tuple #[.agg #[.slice a1 n1 c1, .bool true, .int .i64 0], .bool false]) ∧ Below w1.heap.size w1 w') := fun a1 n1 c1 w1 => by
    have := burnt_ref a1 n1 c1 false 0 w1 (by omega) (by omega)
    rw [if_pos rfl, if_pos rfl, if_neg (by omega)] at this
    exact this
  simp only
  unfold DoIs
  generalize idxN fs nm = k at *
  go_enter Tryz.func63, Tryz.ntmps63
  go_wp2_with (go_at_call 89; go_loud (refine hready.mono ?_; rintro e w1 ⟨rfl, hb⟩; obtain ⟨hR, d0, d1, d2, ⟨e0, e1, e2, g0, g1, g2⟩, hlt⟩ := HR0.out.fill hb; have HR1 := Lib.hid hR; clear hb hR))
  go_wp2_with (go_at_call 39; go_loud (refine (HFD.out _ HR1.out.st.files).mono ?_; rintro e w2 ⟨rfl, hb⟩; obtain ⟨hR, d0, d1, d2, ⟨e0, e1, e2, g0, g1, g2⟩, hlt⟩ := HR1.out.fill hb; have HR2 := Lib.hid hR; clear hb hR))
  go_wp2_with (first | (go_at_call 4; go_loud (refine (HCP.out _ HR2.out.st.files).mono ?_; rintro e w3 ⟨v3, rfl, hown, hb⟩; obtain ⟨a3, c3, rfl⟩ := hown.slice; have HO3 := Lib.hid (hown.le HR2.out.sz); clear hown; obtain ⟨hR, d0, d1, d2, ⟨e0, e1, e2, g0, g1, g2⟩, hlt⟩ := HR2.out.fill hb; have HR3 := Lib.hid hR; clear hb hR)) | (go_at_call 91; go_loud (refine (HBU.out _ _ _ _).mono ?_; rintro e w4 ⟨rfl, hb⟩; have HO4 := Lib.hid (HO3.out.keep hb); obtain ⟨hR, d0, d1, d2, ⟨e0, e1, e2, g0, g1, g2⟩, hlt⟩ := HR3.out.fill hb; have HR4 := Lib.hid hR; clear hb hR)))
  have HB4 := Lib.hid HR4.out.st.below
  have hs4 := HR4.out.sz
  refine bodyPost_disk rfl (w.heap.size + 1) (.slice a3 fs.length c3) true 0 rfl rfl ?_ ?_ ?_ ?_
  case refine_1 => go_simp
  case refine_2 => go_simp
  case refine_3 => go_simp
  case refine_4 =>
    refine ⟨_, rfl, Own.le (base := w.heap.size + 2) ?_ (by omega), ?_⟩
    · repeat (first | exact HO4.out | refine Own.sb ?_ (show w.heap.size + 1 < w.heap.size + 2 by omega) _ | refine Own.al ?_ _)
    · repeat (first | exact HB4.out | refine bset ?_ (show w.heap.size ≤ w.heap.size + 1 by omega) _ | refine Below.alloc ?_ (by simp; omega) _)

set_option maxRecDepth 100000 in
set_option maxHeartbeats 1500000 in
theorem drop_run (v : Value) (fs : List Fl) (fu : Int) (nm : ByteArray) (hlo : -9223372036854775808 ≤ fu) (hhi : fu ≤ 9223372036854775807) (h40 : fs.length * 40 ≤ 140737488355328) (h0 : chkN fs = 0) (hn : idxN fs nm < fs.length) (hf0 : fu ≠ 0) (w : World) (hv : Files w w.heap.size v fs) :
    Calls Tryz.prog 63 #[.agg #[v, .bool false, .int .i64 fu], .string nm] w (DoIs w (drpO fs false fu nm).fs (drpO fs false fu nm).dn (drpO fs false fu nm).fu (drpO fs false fu nm).r) := by
  have HV := Lib.hid hv
  obtain ⟨a, c, rfl, -⟩ := hv
  have HR0 := Lib.hid (R2.made (dn := false) (fu := fu) HV.out)
  have hready := ready_ref _ false fu fs _ HR0.out.st.files
  rw [show rdN fs false = 0 from (rd_zero h0)] at hready
  have hrs : rsN fs nm = 0 := by unfold rsN; rw [if_pos hn]
  have hix : ixZ fs nm = ((idxN fs nm : Nat) : Int) := by unfold ixZ; rw [if_pos hn]
  have hn1 : ((idxN fs nm : Nat) : Int) < (fs.length : Int) := by omega
  have hn2 : (0 : Int) ≤ ((idxN fs nm : Nat) : Int) := by omega
  have hn3 : decide (((idxN fs nm : Nat) : Int) < 0) = false := by simp
  have HFD : Hid (∀ w1, Files w1 w1.heap.size (.slice a fs.length c) fs → Calls Tryz.prog 39 #[.agg #[.slice a fs.length c, .bool false, .int .i64 fu], .string nm] w1 fun e w' => e = .returned (.int .i64 ((idxN fs nm : Nat) : Int)) ∧ Below w1.heap.size w1 w') := fun w1 hf => by
    have := find_ref _ false fu fs nm w1 hf
    rw [hix] at this
    exact this
  have HCP : Hid (∀ w1, Files w1 w1.heap.size (.slice a fs.length c) fs → Calls Tryz.prog 4 #[.agg #[.slice a fs.length c, .bool false, .int .i64 fu]] w1 (CopyIs w1 fs false fu)) := fun w1 hf => copy_ref _ false fu fs w1 hf h40
  obtain ⟨h4, hok⟩ := chk_fine fs h0
  have HF := Lib.hid HV.out.fine
  have hll := HV.out.len
  obtain ⟨fu2, hfu2⟩ : ∃ x : Int, x = (if 0 < fu then fu - 1 else fu) := ⟨_, rfl⟩
  rw [show drpO fs false fu nm = ⟨fs.eraseIdx (idxN fs nm), false, fu2, 0⟩ by unfold drpO; rw [hrs, outO_run h0 hf0, hfu2]]
  have HBU : Hid (∀ (a1 : Option Addr) (n1 c1 : Nat) (w1 : World), Calls Tryz.prog 91 #[.agg #[.slice a1 n1 c1, .bool false, .int .i64 fu]] w1 fun e w' => e = .returned (.tuple #[.agg #[.slice a1 n1 c1, .bool false, .int .i64 fu2], .bool true]) ∧ Below w1.heap.size w1 w') := fun a1 n1 c1 w1 => by
    have := burnt_ref a1 n1 c1 false fu w1 hlo hhi
    rw [if_neg hf0, if_neg hf0, ← hfu2] at this
    exact this
  have HWO : Hid (∀ (w1 : World) (a1 : Option Addr) (c1 : Nat), Files w1 w1.heap.size (.slice a1 fs.length c1) fs → Calls Tryz.prog 92 #[.agg #[.slice a1 fs.length c1, .bool false, .int .i64 fu2], .string nm] w1 (CopyIs w1 (fs.eraseIdx (idxN fs nm)) false fu2)) := fun w1 a1 c1 hf => by
    have := without_ref (.slice a1 fs.length c1) false fu2 fs nm w1 hf h4
    rw [woT_del hok nm hn] at this
    exact this
  clear hfu2
  generalize fs.eraseIdx (idxN fs nm) = fsB at *
  simp only
  unfold DoIs
  generalize idxN fs nm = k at *
  go_enter Tryz.func63, Tryz.ntmps63
  go_wp2_with (go_at_call 89; go_loud (refine hready.mono ?_; rintro e w1 ⟨rfl, hb⟩; obtain ⟨hR, d0, d1, d2, ⟨e0, e1, e2, g0, g1, g2⟩, hlt⟩ := HR0.out.fill hb; have HR1 := Lib.hid hR; clear hb hR))
  go_wp2_with (go_at_call 39; go_loud (refine (HFD.out _ HR1.out.st.files).mono ?_; rintro e w2 ⟨rfl, hb⟩; obtain ⟨hR, d0, d1, d2, ⟨e0, e1, e2, g0, g1, g2⟩, hlt⟩ := HR1.out.fill hb; have HR2 := Lib.hid hR; clear hb hR))
  go_wp2_with (first | (go_at_call 4; go_loud (refine (HCP.out _ HR2.out.st.files).mono ?_; rintro e w3 ⟨v3, rfl, hown, hb⟩; obtain ⟨a3, c3, rfl⟩ := hown.slice; have HO3 := Lib.hid (hown.le HR2.out.sz); clear hown; obtain ⟨hR, d0, d1, d2, ⟨e0, e1, e2, g0, g1, g2⟩, hlt⟩ := HR2.out.fill hb; have HR3 := Lib.hid hR; clear hb hR)) | (go_at_call 91; go_loud (refine (HBU.out _ _ _ _).mono ?_; rintro e w4 ⟨rfl, hb⟩; have HO4 := Lib.hid (HO3.out.keep hb); obtain ⟨hR, d0, d1, d2, ⟨e0, e1, e2, g0, g1, g2⟩, hlt⟩ := HR3.out.fill hb; have HR4 := Lib.hid hR; clear hb hR)) | (go_at_call 92; go_loud (refine (HWO.out _ _ _ ((HO4.out.files HF.out hll).al _)).mono ?_; rintro e w6 ⟨v6, rfl, hown, hb0⟩; obtain ⟨a6, c6, rfl⟩ := hown.slice; have hb : Below w4.heap.size w4 w6 := ((Below.refl _ w4).alloc (Nat.le_refl _) _).trans (hb0.mono (by simp)); have HO6 := Lib.hid (hown.le (show w.heap.size + 2 ≤ _ by have := HR4.out.sz; simp; omega)); clear hown hb0; obtain ⟨hR, d0, d1, d2, ⟨e0, e1, e2, g0, g1, g2⟩, hlt⟩ := HR4.out.fill hb; have HR6 := Lib.hid hR; clear hb hR; have HB6 := Lib.hid HR6.out.st.below)))
  refine bodyPost_disk rfl (w.heap.size + 1) (.slice a6 fsB.length c6) false fu2 rfl rfl ?_ ?_ ?_ ?_
  case refine_1 => go_simp
  case refine_2 => go_simp
  case refine_3 => go_simp
  case refine_4 =>
    refine ⟨_, rfl, Own.le (base := w.heap.size + 2) ?_ (by omega), ?_⟩
    · repeat (first | exact HO6.out | refine Own.sb ?_ (show w.heap.size + 1 < w.heap.size + 2 by omega) _ | refine Own.al ?_ _)
    · repeat (first | exact HB6.out | refine bset ?_ (show w.heap.size ≤ w.heap.size + 1 by omega) _ | refine Below.alloc ?_ (by simp; omega) _)
end Dk
end Go.Proofs.YtgahilemlnoabaaGreat

/- The document's Cut: its ways. -/
namespace Go.Proofs.YtgahilemlnoabaaGreat
open Go.RowKit Go.Lib Go.Sort
namespace Dk

end Dk
end Go.Proofs.YtgahilemlnoabaaGreat

/- The document's Swap: its ways. -/
namespace Go.Proofs.YtgahilemlnoabaaGreat
open Go.RowKit Go.Lib Go.Sort
namespace Dk

set_option maxRecDepth 100000 in
set_option maxHeartbeats 1500000 in
theorem swpr_bad (v : Value) (fs : List Fl) (dn : Bool) (fu : Int) (nm to : ByteArray) (_hlo : -9223372036854775808 ≤ fu) (_hhi : fu ≤ 9223372036854775807) (h40 : fs.length * 40 ≤ 140737488355328) (hr0 : rdN fs dn ≠ 0) (w : World) (hv : Files w w.heap.size v fs) :
    Calls Tryz.prog 66 #[.agg #[v, .bool dn, .int .i64 fu], .string nm, .string to] w (DoIs w (swpO fs dn fu nm to).fs (swpO fs dn fu nm to).dn (swpO fs dn fu nm to).fu (swpO fs dn fu nm to).r) := by
  have HV := Lib.hid hv
  obtain ⟨a, c, rfl, -⟩ := hv
  have HR0 := Lib.hid (R2.made (dn := dn) (fu := fu) HV.out)
  have hready := ready_ref _ dn fu fs _ HR0.out.st.files
  rw [show swpO fs dn fu nm to = badO fs dn fu (rdN fs dn) from outO_bad hr0]
  have HFD : Hid (∀ w1, Files w1 w1.heap.size (.slice a fs.length c) fs → Calls Tryz.prog 39 #[.agg #[.slice a fs.length c, .bool dn, .int .i64 fu], .string nm] w1 fun e w' => e = .returned (.int .i64 (ixZ fs nm)) ∧ Below w1.heap.size w1 w') := fun w1 hf => by
    have := find_ref _ dn fu fs nm w1 hf
    skip
    exact this
  have HBD : Hid (∀ w1, Files w1 w1.heap.size (.slice a fs.length c) fs → Calls Tryz.prog 90 #[.agg #[.slice a fs.length c, .bool dn, .int .i64 fu], .int .i64 (rdN fs dn : Nat)] w1 (DoIs w1 (badO fs dn fu (rdN fs dn : Nat)).fs (badO fs dn fu (rdN fs dn : Nat)).dn (badO fs dn fu (rdN fs dn : Nat)).fu (badO fs dn fu (rdN fs dn : Nat)).r)) := fun w1 hf => bad_ref _ dn fu fs (rdN fs dn : Nat) w1 hf h40
  generalize badO fs dn fu (rdN fs dn : Nat) = B at *
  rcases B with ⟨bf, bd, bu, br⟩
  simp only at HBD
  simp only
  unfold DoIs
  have t1 : ¬ ((rdN fs dn : Nat) : Int) = 0 := by omega
  have t2 : (((rdN fs dn : Nat) : Int) == 0) = false := by simpa using t1
  generalize rdN fs dn = rd at *
  generalize ixZ fs nm = iz at *
  go_enter Tryz.func66, Tryz.ntmps66
  go_wp2_with (go_at_call 89; go_loud (refine hready.mono ?_; rintro e w1 ⟨rfl, hb⟩; obtain ⟨hR, d0, d1, d2, ⟨e0, e1, e2, g0, g1, g2⟩, hlt⟩ := HR0.out.fill hb; have HR1 := Lib.hid hR; clear hb hR))
  go_wp2_with (go_at_call 39; go_loud (refine (HFD.out _ HR1.out.st.files).mono ?_; rintro e w2 ⟨rfl, hb⟩; obtain ⟨hR, d0, d1, d2, ⟨e0, e1, e2, g0, g1, g2⟩, hlt⟩ := HR1.out.fill hb; have HR2 := Lib.hid hR; have hlt0 : w.heap.size < w2.heap.size := (by omega); clear hb hR))
  go_quiet (fail)
  go_wp2_with (go_at_call 90; go_loud (refine (HBD.out _ ?_).mono ?_; exact HR2.out.st.files; rintro e w9 ⟨v9, rfl, hown, hb⟩; obtain ⟨a9, c9, rfl⟩ := hown.slice; have HO9 := Lib.hid (hown.le HR2.out.sz); have hb : Below w2.heap.size w2 w9 := ⟨hb.os, hb.tape, hb.output, hb.size, hb.block⟩; have HB9 := Lib.hid (HR2.out.st.below.trans (hb.mono HR2.out.st.below.size)); obtain ⟨-, -, -, -, ⟨e0, e1, e2, g0, g1, g2⟩, hlt⟩ := HR2.out.fill hb; clear hown hb))
  refine bodyPost_disk rfl (w.heap.size + 1) (.slice a9 bf.length c9) bd bu rfl rfl ?_ ?_ ?_ ?_
  case refine_1 => go_simp
  case refine_2 => go_simp
  case refine_3 => go_simp
  case refine_4 =>
    refine ⟨_, rfl, Own.le (base := w.heap.size + 2) ?_ (by omega), ?_⟩
    · repeat (first | exact HO9.out | refine Own.sb ?_ (show w.heap.size + 1 < w.heap.size + 2 by omega) _ | refine Own.al ?_ _)
    · repeat (first | exact HB9.out | refine bset ?_ (show w.heap.size ≤ w.heap.size + 1 by omega) _ | refine Below.alloc ?_ (by simp; omega) _)

set_option maxRecDepth 100000 in
set_option maxHeartbeats 1500000 in
theorem swpr_none (v : Value) (fs : List Fl) (fu : Int) (nm to : ByteArray) (_hlo : -9223372036854775808 ≤ fu) (_hhi : fu ≤ 9223372036854775807) (h40 : fs.length * 40 ≤ 140737488355328) (h0 : chkN fs = 0) (hn : ¬ idxN fs nm < fs.length) (w : World) (hv : Files w w.heap.size v fs) :
    Calls Tryz.prog 66 #[.agg #[v, .bool false, .int .i64 fu], .string nm, .string to] w (DoIs w (swpO fs false fu nm to).fs (swpO fs false fu nm to).dn (swpO fs false fu nm to).fu (swpO fs false fu nm to).r) := by
  have HV := Lib.hid hv
  obtain ⟨a, c, rfl, -⟩ := hv
  have HR0 := Lib.hid (R2.made (dn := false) (fu := fu) HV.out)
  have hready := ready_ref _ false fu fs _ HR0.out.st.files
  rw [show rdN fs false = 0 from (rd_zero h0)] at hready
  have hix : ixZ fs nm = -1 := by unfold ixZ; rw [if_neg hn]
  rw [show swpO fs false fu nm to = badO fs false fu 6 by unfold swpO; rw [show rwN fs nm to = 6 by unfold rwN; rw [List.getElem?_eq_none (by omega)]]; exact outO_ref h0 (by omega) (by omega)]
  have HFD : Hid (∀ w1, Files w1 w1.heap.size (.slice a fs.length c) fs → Calls Tryz.prog 39 #[.agg #[.slice a fs.length c, .bool false, .int .i64 fu], .string nm] w1 fun e w' => e = .returned (.int .i64 (-1)) ∧ Below w1.heap.size w1 w') := fun w1 hf => by
    have := find_ref _ false fu fs nm w1 hf
    rw [hix] at this
    exact this
  have HBD : Hid (∀ w1, Files w1 w1.heap.size (.slice a fs.length c) fs → Calls Tryz.prog 90 #[.agg #[.slice a fs.length c, .bool false, .int .i64 fu], .int .i64 6] w1 (DoIs w1 (badO fs false fu 6).fs (badO fs false fu 6).dn (badO fs false fu 6).fu (badO fs false fu 6).r)) := fun w1 hf => bad_ref _ false fu fs 6 w1 hf h40
  generalize badO fs false fu 6 = B at *
  rcases B with ⟨bf, bd, bu, br⟩
  simp only at HBD
  simp only
  unfold DoIs
  go_enter Tryz.func66, Tryz.ntmps66
  go_wp2_with (go_at_call 89; go_loud (refine hready.mono ?_; rintro e w1 ⟨rfl, hb⟩; obtain ⟨hR, d0, d1, d2, ⟨e0, e1, e2, g0, g1, g2⟩, hlt⟩ := HR0.out.fill hb; have HR1 := Lib.hid hR; clear hb hR))
  go_wp2_with (go_at_call 39; go_loud (refine (HFD.out _ HR1.out.st.files).mono ?_; rintro e w2 ⟨rfl, hb⟩; obtain ⟨hR, d0, d1, d2, ⟨e0, e1, e2, g0, g1, g2⟩, hlt⟩ := HR1.out.fill hb; have HR2 := Lib.hid hR; have hlt0 : w.heap.size < w2.heap.size := (by omega); clear hb hR))
  go_quiet (fail)
  go_wp2_with (go_at_call 90; go_loud (refine (HBD.out _ ?_).mono ?_; exact HR2.out.st.files; rintro e w9 ⟨v9, rfl, hown, hb⟩; obtain ⟨a9, c9, rfl⟩ := hown.slice; have HO9 := Lib.hid (hown.le HR2.out.sz); have hb : Below w2.heap.size w2 w9 := ⟨hb.os, hb.tape, hb.output, hb.size, hb.block⟩; have HB9 := Lib.hid (HR2.out.st.below.trans (hb.mono HR2.out.st.below.size)); obtain ⟨-, -, -, -, ⟨e0, e1, e2, g0, g1, g2⟩, hlt⟩ := HR2.out.fill hb; clear hown hb))
  refine bodyPost_disk rfl (w.heap.size + 1) (.slice a9 bf.length c9) bd bu rfl rfl ?_ ?_ ?_ ?_
  case refine_1 => go_simp
  case refine_2 => go_simp
  case refine_3 => go_simp
  case refine_4 =>
    refine ⟨_, rfl, Own.le (base := w.heap.size + 2) ?_ (by omega), ?_⟩
    · repeat (first | exact HO9.out | refine Own.sb ?_ (show w.heap.size + 1 < w.heap.size + 2 by omega) _ | refine Own.al ?_ _)
    · repeat (first | exact HB9.out | refine bset ?_ (show w.heap.size ≤ w.heap.size + 1 by omega) _ | refine Below.alloc ?_ (by simp; omega) _)

set_option maxRecDepth 100000 in
set_option maxHeartbeats 1500000 in
theorem swpr_wet (v : Value) (fs : List Fl) (fu : Int) (nm to : ByteArray) (_hlo : -9223372036854775808 ≤ fu) (_hhi : fu ≤ 9223372036854775807) (h40 : fs.length * 40 ≤ 140737488355328) (h0 : chkN fs = 0) (hn : idxN fs nm < fs.length) (hz : fs[idxN fs nm].sy < (fs[idxN fs nm].da.size : Int)) (w : World) (hv : Files w w.heap.size v fs) :
    Calls Tryz.prog 66 #[.agg #[v, .bool false, .int .i64 fu], .string nm, .string to] w (DoIs w (swpO fs false fu nm to).fs (swpO fs false fu nm to).dn (swpO fs false fu nm to).fu (swpO fs false fu nm to).r) := by
  have HV := Lib.hid hv
  obtain ⟨a, c, rfl, -⟩ := hv
  have HR0 := Lib.hid (R2.made (dn := false) (fu := fu) HV.out)
  have hready := ready_ref _ false fu fs _ HR0.out.st.files
  rw [show rdN fs false = 0 from (rd_zero h0)] at hready
  have hix : ixZ fs nm = ((idxN fs nm : Nat) : Int) := by unfold ixZ; rw [if_pos hn]
  have hn1 : ((idxN fs nm : Nat) : Int) < (fs.length : Int) := by omega
  have hn2 : (0 : Int) ≤ ((idxN fs nm : Nat) : Int) := by omega
  have hn3 : decide (((idxN fs nm : Nat) : Int) < 0) = false := by simp
  have HFD : Hid (∀ w1, Files w1 w1.heap.size (.slice a fs.length c) fs → Calls Tryz.prog 39 #[.agg #[.slice a fs.length c, .bool false, .int .i64 fu], .string nm] w1 fun e w' => e = .returned (.int .i64 ((idxN fs nm : Nat) : Int)) ∧ Below w1.heap.size w1 w') := fun w1 hf => by
    have := find_ref _ false fu fs nm w1 hf
    rw [hix] at this
    exact this
  rw [show swpO fs false fu nm to = badO fs false fu 9 by unfold swpO; rw [show rwN fs nm to = 9 by unfold rwN; rw [List.getElem?_eq_getElem hn]; simp only; rw [if_pos hz]]; exact outO_ref h0 (by omega) (by omega)]
  have HBD : Hid (∀ w1, Files w1 w1.heap.size (.slice a fs.length c) fs → Calls Tryz.prog 90 #[.agg #[.slice a fs.length c, .bool false, .int .i64 fu], .int .i64 9] w1 (DoIs w1 (badO fs false fu 9).fs (badO fs false fu 9).dn (badO fs false fu 9).fu (badO fs false fu 9).r)) := fun w1 hf => bad_ref _ false fu fs 9 w1 hf h40
  generalize badO fs false fu 9 = B at *
  rcases B with ⟨bf, bd, bu, br⟩
  simp only at HBD
  simp only
  unfold DoIs
  obtain ⟨a9, c9, he9, -, hf9, hc9⟩ := HV.out
  simp only [Value.slice.injEq] at he9
  obtain ⟨rfl, -, rfl⟩ := he9
  obtain ⟨b, off, rfl, hblt, hcc⟩ := hc9 (by omega)
  obtain ⟨p1, p2, p3⟩ := hcc _ hn
  have HP1 := Lib.hid p1
  have HP2 := Lib.hid p2
  have HP3 := Lib.hid p3
  have hsz9 : fs[idxN fs nm].da.size ≤ maxLen := (hf9 _ (List.getElem_mem hn)).1
  have hsz8 := (hf9 _ (List.getElem_mem hn)).2
  clear hc9 hcc p1 p2 p3 hf9
  generalize fs[idxN fs nm] = f at *
  rcases f with ⟨xn, xd, xs⟩
  simp only at HP1 HP2 HP3 hsz9 hsz8 hz
  generalize idxN fs nm = k at *
  have t5 : decide (xs < (xd.size : Int)) = true := by simpa using hz
  go_enter Tryz.func66, Tryz.ntmps66
  go_wp2_with (go_at_call 89; go_loud (refine hready.mono ?_; rintro e w1 ⟨rfl, hb⟩; obtain ⟨hR, d0, d1, d2, ⟨e0, e1, e2, g0, g1, g2⟩, hlt⟩ := HR0.out.fill hb; have HR1 := Lib.hid hR; clear hb hR))
  go_wp2_with (go_at_call 39; go_loud (refine (HFD.out _ HR1.out.st.files).mono ?_; rintro e w2 ⟨rfl, hb⟩; obtain ⟨hR, d0, d1, d2, ⟨e0, e1, e2, g0, g1, g2⟩, hlt⟩ := HR1.out.fill hb; have HR2 := Lib.hid hR; have hlt0 : w.heap.size < w2.heap.size := (by omega); clear hb hR; have p1 := (HR2.out.st.below.cell hblt).trans HP1.out; have p2 := (HR2.out.st.below.cell hblt).trans HP2.out; have p3 := (HR2.out.st.below.cell hblt).trans HP3.out; have hbl2 : b < w2.heap.size := (by have := HR2.out.sz; omega)))
  go_quiet (fail)
  go_wp2_with (go_at_call 90; go_loud (refine (HBD.out _ ?_).mono ?_; exact HR2.out.st.files; rintro e w9 ⟨v9, rfl, hown, hb⟩; obtain ⟨a9, c9, rfl⟩ := hown.slice; have HO9 := Lib.hid (hown.le HR2.out.sz); have hb : Below w2.heap.size w2 w9 := ⟨hb.os, hb.tape, hb.output, hb.size, hb.block⟩; have HB9 := Lib.hid (HR2.out.st.below.trans (hb.mono HR2.out.st.below.size)); obtain ⟨-, -, -, -, ⟨e0, e1, e2, g0, g1, g2⟩, hlt⟩ := HR2.out.fill hb; clear hown hb))
  refine bodyPost_disk rfl (w.heap.size + 1) (.slice a9 bf.length c9) bd bu rfl rfl ?_ ?_ ?_ ?_
  case refine_1 => go_simp
  case refine_2 => go_simp
  case refine_3 => go_simp
  case refine_4 =>
    refine ⟨_, rfl, Own.le (base := w.heap.size + 2) ?_ (by omega), ?_⟩
    · repeat (first | exact HO9.out | refine Own.sb ?_ (show w.heap.size + 1 < w.heap.size + 2 by omega) _ | refine Own.al ?_ _)
    · repeat (first | exact HB9.out | refine bset ?_ (show w.heap.size ≤ w.heap.size + 1 by omega) _ | refine Below.alloc ?_ (by simp; omega) _)

set_option maxRecDepth 100000 in
set_option maxHeartbeats 1500000 in
theorem swpr_name (v : Value) (fs : List Fl) (fu : Int) (nm to : ByteArray) (_hlo : -9223372036854775808 ≤ fu) (_hhi : fu ≤ 9223372036854775807) (h40 : fs.length * 40 ≤ 140737488355328) (h0 : chkN fs = 0) (hn : idxN fs nm < fs.length) (hz : ¬ fs[idxN fs nm].sy < (fs[idxN fs nm].da.size : Int)) (hm : nmOk to = false) (w : World) (hv : Files w w.heap.size v fs) :
    Calls Tryz.prog 66 #[.agg #[v, .bool false, .int .i64 fu], .string nm, .string to] w (DoIs w (swpO fs false fu nm to).fs (swpO fs false fu nm to).dn (swpO fs false fu nm to).fu (swpO fs false fu nm to).r) := by
  have HV := Lib.hid hv
  obtain ⟨a, c, rfl, -⟩ := hv
  have HR0 := Lib.hid (R2.made (dn := false) (fu := fu) HV.out)
  have hready := ready_ref _ false fu fs _ HR0.out.st.files
  rw [show rdN fs false = 0 from (rd_zero h0)] at hready
  have hix : ixZ fs nm = ((idxN fs nm : Nat) : Int) := by unfold ixZ; rw [if_pos hn]
  have hn1 : ((idxN fs nm : Nat) : Int) < (fs.length : Int) := by omega
  have hn2 : (0 : Int) ≤ ((idxN fs nm : Nat) : Int) := by omega
  have hn3 : decide (((idxN fs nm : Nat) : Int) < 0) = false := by simp
  have HFD : Hid (∀ w1, Files w1 w1.heap.size (.slice a fs.length c) fs → Calls Tryz.prog 39 #[.agg #[.slice a fs.length c, .bool false, .int .i64 fu], .string nm] w1 fun e w' => e = .returned (.int .i64 ((idxN fs nm : Nat) : Int)) ∧ Below w1.heap.size w1 w') := fun w1 hf => by
    have := find_ref _ false fu fs nm w1 hf
    rw [hix] at this
    exact this
  rw [show swpO fs false fu nm to = badO fs false fu 5 by unfold swpO; rw [show rwN fs nm to = 5 by unfold rwN; rw [List.getElem?_eq_getElem hn]; simp only; rw [if_neg hz, hm]; rfl]; exact outO_ref h0 (by omega) (by omega)]
  have HBD : Hid (∀ w1, Files w1 w1.heap.size (.slice a fs.length c) fs → Calls Tryz.prog 90 #[.agg #[.slice a fs.length c, .bool false, .int .i64 fu], .int .i64 5] w1 (DoIs w1 (badO fs false fu 5).fs (badO fs false fu 5).dn (badO fs false fu 5).fu (badO fs false fu 5).r)) := fun w1 hf => bad_ref _ false fu fs 5 w1 hf h40
  generalize badO fs false fu 5 = B at *
  rcases B with ⟨bf, bd, bu, br⟩
  simp only at HBD
  simp only
  unfold DoIs
  have HNM : Hid (∀ w1, Calls Tryz.prog 93 #[.string to] w1 fun e w' => e = .returned (.bool false) ∧ w' = w1) := fun w1 => by
    have := name_ref to w1
    rw [hm] at this
    exact this
  obtain ⟨a9, c9, he9, -, hf9, hc9⟩ := HV.out
  simp only [Value.slice.injEq] at he9
  obtain ⟨rfl, -, rfl⟩ := he9
  obtain ⟨b, off, rfl, hblt, hcc⟩ := hc9 (by omega)
  obtain ⟨p1, p2, p3⟩ := hcc _ hn
  have HP1 := Lib.hid p1
  have HP2 := Lib.hid p2
  have HP3 := Lib.hid p3
  have hsz9 : fs[idxN fs nm].da.size ≤ maxLen := (hf9 _ (List.getElem_mem hn)).1
  have hsz8 := (hf9 _ (List.getElem_mem hn)).2
  clear hc9 hcc p1 p2 p3 hf9
  generalize fs[idxN fs nm] = f at *
  rcases f with ⟨xn, xd, xs⟩
  simp only at HP1 HP2 HP3 hsz9 hsz8 hz
  generalize idxN fs nm = k at *
  have t5 : decide (xs < (xd.size : Int)) = false := by simpa using hz
  go_enter Tryz.func66, Tryz.ntmps66
  go_wp2_with (go_at_call 89; go_loud (refine hready.mono ?_; rintro e w1 ⟨rfl, hb⟩; obtain ⟨hR, d0, d1, d2, ⟨e0, e1, e2, g0, g1, g2⟩, hlt⟩ := HR0.out.fill hb; have HR1 := Lib.hid hR; clear hb hR))
  go_wp2_with (go_at_call 39; go_loud (refine (HFD.out _ HR1.out.st.files).mono ?_; rintro e w2 ⟨rfl, hb⟩; obtain ⟨hR, d0, d1, d2, ⟨e0, e1, e2, g0, g1, g2⟩, hlt⟩ := HR1.out.fill hb; have HR2 := Lib.hid hR; have hlt0 : w.heap.size < w2.heap.size := (by omega); clear hb hR; have p1 := (HR2.out.st.below.cell hblt).trans HP1.out; have p2 := (HR2.out.st.below.cell hblt).trans HP2.out; have p3 := (HR2.out.st.below.cell hblt).trans HP3.out; have hbl2 : b < w2.heap.size := (by have := HR2.out.sz; omega)))
  go_quiet (fail)
  go_wp2_with (first | (go_at_call 93; go_loud (refine (HNM.out _).mono ?_; rintro e wn ⟨rfl, h9⟩; subst wn)) | (go_at_call 90; go_loud (refine (HBD.out _ ?_).mono ?_; exact HR2.out.st.files; rintro e w9 ⟨v9, rfl, hown, hb⟩; obtain ⟨a9, c9, rfl⟩ := hown.slice; have HO9 := Lib.hid (hown.le HR2.out.sz); have hb : Below w2.heap.size w2 w9 := ⟨hb.os, hb.tape, hb.output, hb.size, hb.block⟩; have HB9 := Lib.hid (HR2.out.st.below.trans (hb.mono HR2.out.st.below.size)); obtain ⟨-, -, -, -, ⟨e0, e1, e2, g0, g1, g2⟩, hlt⟩ := HR2.out.fill hb; clear hown hb)))
  refine bodyPost_disk rfl (w.heap.size + 1) (.slice a9 bf.length c9) bd bu rfl rfl ?_ ?_ ?_ ?_
  case refine_1 => go_simp
  case refine_2 => go_simp
  case refine_3 => go_simp
  case refine_4 =>
    refine ⟨_, rfl, Own.le (base := w.heap.size + 2) ?_ (by omega), ?_⟩
    · repeat (first | exact HO9.out | refine Own.sb ?_ (show w.heap.size + 1 < w.heap.size + 2 by omega) _ | refine Own.al ?_ _)
    · repeat (first | exact HB9.out | refine bset ?_ (show w.heap.size ≤ w.heap.size + 1 by omega) _ | refine Below.alloc ?_ (by simp; omega) _)

set_option maxRecDepth 100000 in
set_option maxHeartbeats 1500000 in
theorem swpr_fus (v : Value) (fs : List Fl) (nm to : ByteArray) (h40 : fs.length * 40 ≤ 140737488355328) (h0 : chkN fs = 0) (hn : idxN fs nm < fs.length) (hz : ¬ fs[idxN fs nm].sy < (fs[idxN fs nm].da.size : Int)) (hm : nmOk to = true) (w : World) (hv : Files w w.heap.size v fs) :
    Calls Tryz.prog 66 #[.agg #[v, .bool false, .int .i64 0], .string nm, .string to] w (DoIs w (swpO fs false 0 nm to).fs (swpO fs false 0 nm to).dn (swpO fs false 0 nm to).fu (swpO fs false 0 nm to).r) := by
  have HV := Lib.hid hv
  obtain ⟨a, c, rfl, -⟩ := hv
  have HR0 := Lib.hid (R2.made (dn := false) (fu := 0) HV.out)
  have hready := ready_ref _ false 0 fs _ HR0.out.st.files
  rw [show rdN fs false = 0 from (rd_zero h0)] at hready
  have hix : ixZ fs nm = ((idxN fs nm : Nat) : Int) := by unfold ixZ; rw [if_pos hn]
  have hn1 : ((idxN fs nm : Nat) : Int) < (fs.length : Int) := by omega
  have hn2 : (0 : Int) ≤ ((idxN fs nm : Nat) : Int) := by omega
  have hn3 : decide (((idxN fs nm : Nat) : Int) < 0) = false := by simp
  have HFD : Hid (∀ w1, Files w1 w1.heap.size (.slice a fs.length c) fs → Calls Tryz.prog 39 #[.agg #[.slice a fs.length c, .bool false, .int .i64 0], .string nm] w1 fun e w' => e = .returned (.int .i64 ((idxN fs nm : Nat) : Int)) ∧ Below w1.heap.size w1 w') := fun w1 hf => by
    have := find_ref _ false 0 fs nm w1 hf
    rw [hix] at this
    exact this
  have hrs : rwN fs nm to = 0 := by unfold rwN; rw [List.getElem?_eq_getElem hn]; simp only; rw [if_neg hz, hm]; rfl
  have HCP : Hid (∀ w1, Files w1 w1.heap.size (.slice a fs.length c) fs → Calls Tryz.prog 4 #[.agg #[.slice a fs.length c, .bool false, .int .i64 0]] w1 (CopyIs w1 fs false 0)) := fun w1 hf => copy_ref _ false 0 fs w1 hf h40
  rw [show swpO fs false 0 nm to = ⟨fs, true, 0, 8⟩ by unfold swpO; rw [hrs, outO_fus h0]; rfl]
  have HBU : Hid (∀ (a1 : Option Addr) (n1 c1 : Nat) (w1 : World), Calls Tryz.prog 91 #[.agg #[.slice a1 n1 c1, .bool false, .int .i64 0]] w1 fun e w' => e = .returned (.tuple #[.agg #[.slice a1 n1 c1, .bool true, .int .i64 0], .bool false]) ∧ Below w1.heap.size w1 w') := fun a1 n1 c1 w1 => by
    have := burnt_ref a1 n1 c1 false 0 w1 (by omega) (by omega)
    rw [if_pos rfl, if_pos rfl, if_neg (by omega)] at this
    exact this
  have HNM : Hid (∀ w1, Calls Tryz.prog 93 #[.string to] w1 fun e w' => e = .returned (.bool true) ∧ w' = w1) := fun w1 => by
    have := name_ref to w1
    rw [hm] at this
    exact this
  obtain ⟨a9, c9, he9, -, hf9, hc9⟩ := HV.out
  simp only [Value.slice.injEq] at he9
  obtain ⟨rfl, -, rfl⟩ := he9
  obtain ⟨b, off, rfl, hblt, hcc⟩ := hc9 (by omega)
  obtain ⟨p1, p2, p3⟩ := hcc _ hn
  have HP1 := Lib.hid p1
  have HP2 := Lib.hid p2
  have HP3 := Lib.hid p3
  have hsz9 : fs[idxN fs nm].da.size ≤ maxLen := (hf9 _ (List.getElem_mem hn)).1
  have hsz8 := (hf9 _ (List.getElem_mem hn)).2
  clear hc9 hcc p1 p2 p3 hf9
  simp only
  unfold DoIs
  generalize fs[idxN fs nm] = f at *
  rcases f with ⟨xn, xd, xs⟩
  simp only at HP1 HP2 HP3 hsz9 hsz8 hz
  generalize idxN fs nm = k at *
  have t5 : decide (xs < (xd.size : Int)) = false := by simpa using hz
  go_enter Tryz.func66, Tryz.ntmps66
  go_wp2_with (go_at_call 89; go_loud (refine hready.mono ?_; rintro e w1 ⟨rfl, hb⟩; obtain ⟨hR, d0, d1, d2, ⟨e0, e1, e2, g0, g1, g2⟩, hlt⟩ := HR0.out.fill hb; have HR1 := Lib.hid hR; clear hb hR))
  go_wp2_with (go_at_call 39; go_loud (refine (HFD.out _ HR1.out.st.files).mono ?_; rintro e w2 ⟨rfl, hb⟩; obtain ⟨hR, d0, d1, d2, ⟨e0, e1, e2, g0, g1, g2⟩, hlt⟩ := HR1.out.fill hb; have HR2 := Lib.hid hR; have hlt0 : w.heap.size < w2.heap.size := (by omega); clear hb hR; have p1 := (HR2.out.st.below.cell hblt).trans HP1.out; have p2 := (HR2.out.st.below.cell hblt).trans HP2.out; have p3 := (HR2.out.st.below.cell hblt).trans HP3.out; have hbl2 : b < w2.heap.size := (by have := HR2.out.sz; omega)))
  go_quiet (fail)
  go_wp2_with (first | (go_at_call 93; go_loud (refine (HNM.out _).mono ?_; rintro e wn ⟨rfl, h9⟩; subst wn)) | (go_at_call 4; go_loud (refine (HCP.out _ ?_).mono ?_; exact HR2.out.st.files; rintro e w3 ⟨v3, rfl, hown, hb⟩; obtain ⟨a3, c3, rfl⟩ := hown.slice; have HO3 := Lib.hid (hown.le HR2.out.sz); clear hown; have hb : Below w2.heap.size w2 w3 := ⟨hb.os, hb.tape, hb.output, hb.size, hb.block⟩; obtain ⟨hR, d0, d1, d2, ⟨e0, e1, e2, g0, g1, g2⟩, hlt⟩ := HR2.out.fill hb; have HR3 := Lib.hid hR; clear hb hR)) | (go_at_call 91; go_loud (refine (HBU.out _ _ _ _).mono ?_; rintro e w4 ⟨rfl, hb⟩; have HO4 := Lib.hid (HO3.out.keep hb); obtain ⟨hR, d0, d1, d2, ⟨e0, e1, e2, g0, g1, g2⟩, hlt⟩ := HR3.out.fill hb; have HR4 := Lib.hid hR; clear hb hR)))
  have HB4 := Lib.hid HR4.out.st.below
  have hs4 := HR4.out.sz
  refine bodyPost_disk rfl (w.heap.size + 1) (.slice a3 fs.length c3) true 0 rfl rfl ?_ ?_ ?_ ?_
  case refine_1 => go_simp
  case refine_2 => go_simp
  case refine_3 => go_simp
  case refine_4 =>
    refine ⟨_, rfl, Own.le (base := w.heap.size + 2) ?_ (by omega), ?_⟩
    · repeat (first | exact HO4.out | refine Own.sb ?_ (show w.heap.size + 1 < w.heap.size + 2 by omega) _ | refine Own.al ?_ _)
    · repeat (first | exact HB4.out | refine bset ?_ (show w.heap.size ≤ w.heap.size + 1 by omega) _ | refine Below.alloc ?_ (by simp; omega) _)

set_option maxRecDepth 100000 in
set_option maxHeartbeats 1500000 in
theorem swpr_run (v : Value) (fs : List Fl) (fu : Int) (nm to : ByteArray) (hlo : -9223372036854775808 ≤ fu) (hhi : fu ≤ 9223372036854775807) (h40 : fs.length * 40 ≤ 140737488355328) (h0 : chkN fs = 0) (hn : idxN fs nm < fs.length) (hz : ¬ fs[idxN fs nm].sy < (fs[idxN fs nm].da.size : Int)) (hm : nmOk to = true) (hf0 : fu ≠ 0) (w : World) (hv : Files w w.heap.size v fs) :
    Calls Tryz.prog 66 #[.agg #[v, .bool false, .int .i64 fu], .string nm, .string to] w (DoIs w (swpO fs false fu nm to).fs (swpO fs false fu nm to).dn (swpO fs false fu nm to).fu (swpO fs false fu nm to).r) := by
  have HV := Lib.hid hv
  obtain ⟨a, c, rfl, -⟩ := hv
  have HR0 := Lib.hid (R2.made (dn := false) (fu := fu) HV.out)
  have hready := ready_ref _ false fu fs _ HR0.out.st.files
  rw [show rdN fs false = 0 from (rd_zero h0)] at hready
  have hix : ixZ fs nm = ((idxN fs nm : Nat) : Int) := by unfold ixZ; rw [if_pos hn]
  have hn1 : ((idxN fs nm : Nat) : Int) < (fs.length : Int) := by omega
  have hn2 : (0 : Int) ≤ ((idxN fs nm : Nat) : Int) := by omega
  have hn3 : decide (((idxN fs nm : Nat) : Int) < 0) = false := by simp
  have HFD : Hid (∀ w1, Files w1 w1.heap.size (.slice a fs.length c) fs → Calls Tryz.prog 39 #[.agg #[.slice a fs.length c, .bool false, .int .i64 fu], .string nm] w1 fun e w' => e = .returned (.int .i64 ((idxN fs nm : Nat) : Int)) ∧ Below w1.heap.size w1 w') := fun w1 hf => by
    have := find_ref _ false fu fs nm w1 hf
    rw [hix] at this
    exact this
  have hrs : rwN fs nm to = 0 := by unfold rwN; rw [List.getElem?_eq_getElem hn]; simp only; rw [if_neg hz, hm]; rfl
  have HCP : Hid (∀ w1, Files w1 w1.heap.size (.slice a fs.length c) fs → Calls Tryz.prog 4 #[.agg #[.slice a fs.length c, .bool false, .int .i64 fu]] w1 (CopyIs w1 fs false fu)) := fun w1 hf => copy_ref _ false fu fs w1 hf h40
  obtain ⟨h4, hok⟩ := chk_fine fs h0
  have HF := Lib.hid HV.out.fine
  have hll := HV.out.len
  obtain ⟨fu2, hfu2⟩ : ∃ x : Int, x = (if 0 < fu then fu - 1 else fu) := ⟨_, rfl⟩
  rw [show swpO fs false fu nm to = ⟨putF (fs.eraseIdx (idxN fs nm)) (swpF fs nm to), false, fu2, 0⟩ by unfold swpO; rw [hrs, outO_run h0 hf0, hfu2]]
  have HBU : Hid (∀ (a1 : Option Addr) (n1 c1 : Nat) (w1 : World), Calls Tryz.prog 91 #[.agg #[.slice a1 n1 c1, .bool false, .int .i64 fu]] w1 fun e w' => e = .returned (.tuple #[.agg #[.slice a1 n1 c1, .bool false, .int .i64 fu2], .bool true]) ∧ Below w1.heap.size w1 w') := fun a1 n1 c1 w1 => by
    have := burnt_ref a1 n1 c1 false fu w1 hlo hhi
    rw [if_neg hf0, if_neg hf0, ← hfu2] at this
    exact this
  have HCE : Hid (∀ (w1 : World) (a1 : Option Addr) (c1 : Nat), Own w1 (w.heap.size + 2) (.slice a1 fs.length c1) fs → ∃ g : Nat, a1 = some ⟨g, 0, none⟩ ∧ g < w1.heap.size ∧ w1.cell? ⟨g, idxN fs nm * 3, none⟩ = some (.string fs[idxN fs nm].nm) ∧ w1.cell? ⟨g, idxN fs nm * 3 + 1, none⟩ = some (.string fs[idxN fs nm].da) ∧ w1.cell? ⟨g, idxN fs nm * 3 + 2, none⟩ = some (.int .i64 fs[idxN fs nm].sy)) := fun w1 a1 c1 ho => by
    obtain ⟨g, cap, he, -, hg, hc, -⟩ := ho.form (by omega)
    simp only [Value.slice.injEq] at he
    obtain ⟨rfl, -, -⟩ := he
    exact ⟨g, rfl, hg, hc _ hn⟩
  have HWO : Hid (∀ (w1 : World) (a1 : Option Addr) (c1 : Nat), Files w1 w1.heap.size (.slice a1 fs.length c1) fs → Calls Tryz.prog 92 #[.agg #[.slice a1 fs.length c1, .bool false, .int .i64 fu2], .string nm] w1 (CopyIs w1 (fs.eraseIdx (idxN fs nm)) false fu2)) := fun w1 a1 c1 hf => by
    have := without_ref (.slice a1 fs.length c1) false fu2 fs nm w1 hf h4
    rw [woT_del hok nm hn] at this
    exact this
  have hfs : (⟨to, fs[idxN fs nm].da, fs[idxN fs nm].sy⟩ : Fl) = swpF fs nm to := by unfold swpF; rw [look_at fs nm hn]
  have hel : (fs.eraseIdx (idxN fs nm)).length = fs.length - 1 := List.length_eraseIdx_of_lt hn
  have hfe : Fine (fs.eraseIdx (idxN fs nm)) := fun x hx => HF.out x (List.mem_of_mem_eraseIdx hx)
  have HFE := Lib.hid hfe
  have hle : (fs.eraseIdx (idxN fs nm)).length ≤ 4611686018427387904 := by omega
  have HWT : Hid (∀ (w1 : World) (a1 : Option Addr) (c1 : Nat), Files w1 w1.heap.size (.slice a1 (fs.eraseIdx (idxN fs nm)).length c1) (fs.eraseIdx (idxN fs nm)) → Calls Tryz.prog 94 #[.agg #[.slice a1 (fs.eraseIdx (idxN fs nm)).length c1, .bool false, .int .i64 fu2], .agg #[.string to, .string fs[idxN fs nm].da, .int .i64 fs[idxN fs nm].sy]] w1 (CopyIs w1 (putF (fs.eraseIdx (idxN fs nm)) (swpF fs nm to)) false fu2)) := fun w1 a1 c1 hf => by
    have := with_ref (.slice a1 (fs.eraseIdx (idxN fs nm)).length c1) false fu2 (fs.eraseIdx (idxN fs nm)) ⟨to, fs[idxN fs nm].da, fs[idxN fs nm].sy⟩ w1 hf (by omega)
    rw [wthF_put (del_ok hok _)] at this
    rw [← hfs]
    exact this
  have HNM : Hid (∀ w1, Calls Tryz.prog 93 #[.string to] w1 fun e w' => e = .returned (.bool true) ∧ w' = w1) := fun w1 => by
    have := name_ref to w1
    rw [hm] at this
    exact this
  obtain ⟨a9, c9, he9, -, hf9, hc9⟩ := HV.out
  simp only [Value.slice.injEq] at he9
  obtain ⟨rfl, -, rfl⟩ := he9
  obtain ⟨b, off, rfl, hblt, hcc⟩ := hc9 (by omega)
  obtain ⟨p1, p2, p3⟩ := hcc _ hn
  have HP1 := Lib.hid p1
  have HP2 := Lib.hid p2
  have HP3 := Lib.hid p3
  have hsz9 : fs[idxN fs nm].da.size ≤ maxLen := (hf9 _ (List.getElem_mem hn)).1
  have hsz8 := (hf9 _ (List.getElem_mem hn)).2
  clear hc9 hcc p1 p2 p3 hf9
  clear hfs hfu2 hel hfe
  generalize putF (fs.eraseIdx (idxN fs nm)) (swpF fs nm to) = fsB at *
  generalize fs.eraseIdx (idxN fs nm) = fsA at *
  simp only
  unfold DoIs
  generalize fs[idxN fs nm] = f at *
  rcases f with ⟨xn, xd, xs⟩
  simp only at HP1 HP2 HP3 hsz9 hsz8 hz HCE HWT
  generalize idxN fs nm = k at *
  have t5 : decide (xs < (xd.size : Int)) = false := by simpa using hz
  go_enter Tryz.func66, Tryz.ntmps66
  go_wp2_with (go_at_call 89; go_loud (refine hready.mono ?_; rintro e w1 ⟨rfl, hb⟩; obtain ⟨hR, d0, d1, d2, ⟨e0, e1, e2, g0, g1, g2⟩, hlt⟩ := HR0.out.fill hb; have HR1 := Lib.hid hR; clear hb hR))
  go_wp2_with (go_at_call 39; go_loud (refine (HFD.out _ HR1.out.st.files).mono ?_; rintro e w2 ⟨rfl, hb⟩; obtain ⟨hR, d0, d1, d2, ⟨e0, e1, e2, g0, g1, g2⟩, hlt⟩ := HR1.out.fill hb; have HR2 := Lib.hid hR; have hlt0 : w.heap.size < w2.heap.size := (by omega); clear hb hR; have p1 := (HR2.out.st.below.cell hblt).trans HP1.out; have p2 := (HR2.out.st.below.cell hblt).trans HP2.out; have p3 := (HR2.out.st.below.cell hblt).trans HP3.out; have hbl2 : b < w2.heap.size := (by have := HR2.out.sz; omega)))
  go_quiet (fail)
  go_wp2_with (first | (go_at_call 93; go_loud (refine (HNM.out _).mono ?_; rintro e wn ⟨rfl, h9⟩; subst wn)) | (go_at_call 4; go_loud (refine (HCP.out _ ?_).mono ?_; exact HR2.out.st.files; rintro e w3 ⟨v3, rfl, hown, hb⟩; obtain ⟨a3, c3, rfl⟩ := hown.slice; have HO3 := Lib.hid (hown.le HR2.out.sz); clear hown; have hb : Below w2.heap.size w2 w3 := ⟨hb.os, hb.tape, hb.output, hb.size, hb.block⟩; obtain ⟨hR, d0, d1, d2, ⟨e0, e1, e2, g0, g1, g2⟩, hlt⟩ := HR2.out.fill hb; have HR3 := Lib.hid hR; clear hb hR)) | (go_at_call 91; go_loud (refine (HBU.out _ _ _ _).mono ?_; rintro e w4 ⟨rfl, hb⟩; have ho4 := HO3.out.keep hb; obtain ⟨g, rfl, hg, q0, q1, q2⟩ := HCE.out _ _ _ ho4; have HO4 := Lib.hid ho4; clear ho4; obtain ⟨hR, d0, d1, d2, ⟨e0, e1, e2, g0, g1, g2⟩, hlt⟩ := HR3.out.fill hb; have HR4 := Lib.hid hR; clear hb hR)))
  have hs4 := HR4.out.sz
  have hw4 : w4.heap.size + 1 < w4.heap.size + 1 + 1 := by omega
  go_region_with (first
    | (go_at_call 92; go_loud (refine (HWO.out _ _ _ ?_).mono ?_; exact (((HO4.out.files HF.out hll).al _).al _); rintro e w5 ⟨v5, rfl, hown, hb0⟩; obtain ⟨a5, c5, rfl⟩ := hown.slice; have r0 := (hb0.cell (p := ⟨w4.heap.size + 1, 0, none⟩) (by show w4.heap.size + 1 < _; simp)).trans (show World.cell? ((w4.alloc (.cells #[.slice (some ⟨g, 0, none⟩) fs.length c3, .bool false, .int .i64 fu2] 24)).alloc (.cells #[.string to, .string xd, .int .i64 xs] 62)) _ = some (.string to) by simp [go_sem]); have r1 := (hb0.cell (p := ⟨w4.heap.size + 1, 1, none⟩) (by show w4.heap.size + 1 < _; simp)).trans (show World.cell? ((w4.alloc (.cells #[.slice (some ⟨g, 0, none⟩) fs.length c3, .bool false, .int .i64 fu2] 24)).alloc (.cells #[.string to, .string xd, .int .i64 xs] 62)) _ = some (.string xd) by simp [go_sem]); have r2 := (hb0.cell (p := ⟨w4.heap.size + 1, 2, none⟩) (by show w4.heap.size + 1 < _; simp)).trans (show World.cell? ((w4.alloc (.cells #[.slice (some ⟨g, 0, none⟩) fs.length c3, .bool false, .int .i64 fu2] 24)).alloc (.cells #[.string to, .string xd, .int .i64 xs] 62)) _ = some (.int .i64 xs) by simp [go_sem]); have hb5 : Below w4.heap.size w4 w5 := (((Below.refl _ w4).alloc (Nat.le_refl _) _).alloc (by simp) _).trans ((⟨hb0.os, hb0.tape, hb0.output, hb0.size, hb0.block⟩ : Below ((w4.alloc (.cells #[.slice (some ⟨g, 0, none⟩) fs.length c3, .bool false, .int .i64 fu2] 24)).alloc (.cells #[.string to, .string xd, .int .i64 xs] 62)).heap.size ((w4.alloc (.cells #[.slice (some ⟨g, 0, none⟩) fs.length c3, .bool false, .int .i64 fu2] 24)).alloc (.cells #[.string to, .string xd, .int .i64 xs] 62)) w5).mono (by simp; omega)); have HO5 := Lib.hid hown; have HB5 := Lib.hid hb5; have HR5 := Lib.hid (HR4.out.fill hb5).1; clear hown hb0 hb5))
    | (go_at_call 94; go_loud (refine (HWT.out _ _ _ ?_).mono ?_; exact HO5.out.files HFE.out hle; rintro e w6 ⟨v6, rfl, hown, hb⟩; obtain ⟨a6, c6, rfl⟩ := hown.slice; have HO6 := Lib.hid (hown.le HR5.out.sz); clear hown; have hb : Below w5.heap.size w5 w6 := ⟨hb.os, hb.tape, hb.output, hb.size, hb.block⟩; obtain ⟨hR, d0, d1, d2, ⟨e0, e1, e2, g0, g1, g2⟩, hlt⟩ := HR5.out.fill hb; have HR6 := Lib.hid hR; clear hb hR; have HB6 := Lib.hid HR6.out.st.below)))
  all_goals go_wp2
  all_goals
    refine bodyPost_disk rfl (w.heap.size + 1) (.slice a6 fsB.length c6) false fu2 rfl rfl ?_ ?_ ?_ ?_
    case refine_1 => go_simp
    case refine_2 => go_simp
    case refine_3 => go_simp
    case refine_4 =>
      refine ⟨_, rfl, Own.le (base := w.heap.size + 2) ?_ (by omega), ?_⟩
      · repeat (first | exact HO6.out | refine Own.sb ?_ (show w.heap.size + 1 < w.heap.size + 2 by omega) _ | refine Own.al ?_ _)
      · repeat (first | exact HB6.out | refine bset ?_ (show w.heap.size ≤ w.heap.size + 1 by omega) _ | refine Below.alloc ?_ (by simp; omega) _)
end Dk
end Go.Proofs.YtgahilemlnoabaaGreat

/- The document's Add: its ways. -/
namespace Go.Proofs.YtgahilemlnoabaaGreat
open Go.RowKit Go.Lib Go.Sort
namespace Dk

set_option maxRecDepth 100000 in
set_option maxHeartbeats 1500000 in
theorem addr_bad (v : Value) (fs : List Fl) (dn : Bool) (fu : Int) (nm da : ByteArray) (_hlo : -9223372036854775808 ≤ fu) (_hhi : fu ≤ 9223372036854775807) (h40 : fs.length * 40 ≤ 140737488355328) (hr0 : rdN fs dn ≠ 0) (w : World) (hv : Files w w.heap.size v fs) :
    Calls Tryz.prog 64 #[.agg #[v, .bool dn, .int .i64 fu], .string nm, .string da] w (DoIs w (addO fs dn fu nm da).fs (addO fs dn fu nm da).dn (addO fs dn fu nm da).fu (addO fs dn fu nm da).r) := by
  have HV := Lib.hid hv
  obtain ⟨a, c, rfl, -⟩ := hv
  have HR0 := Lib.hid (R2.made (dn := dn) (fu := fu) HV.out)
  have hready := ready_ref _ dn fu fs _ HR0.out.st.files
  rw [show addO fs dn fu nm da = badO fs dn fu (rdN fs dn) from outO_bad hr0]
  have HFD : Hid (∀ w1, Files w1 w1.heap.size (.slice a fs.length c) fs → Calls Tryz.prog 39 #[.agg #[.slice a fs.length c, .bool dn, .int .i64 fu], .string nm] w1 fun e w' => e = .returned (.int .i64 (ixZ fs nm)) ∧ Below w1.heap.size w1 w') := fun w1 hf => by
    have := find_ref _ dn fu fs nm w1 hf
    skip
    exact this
  have HBD : Hid (∀ w1, Files w1 w1.heap.size (.slice a fs.length c) fs → Calls Tryz.prog 90 #[.agg #[.slice a fs.length c, .bool dn, .int .i64 fu], .int .i64 (rdN fs dn : Nat)] w1 (DoIs w1 (badO fs dn fu (rdN fs dn : Nat)).fs (badO fs dn fu (rdN fs dn : Nat)).dn (badO fs dn fu (rdN fs dn : Nat)).fu (badO fs dn fu (rdN fs dn : Nat)).r)) := fun w1 hf => bad_ref _ dn fu fs (rdN fs dn : Nat) w1 hf h40
  generalize badO fs dn fu (rdN fs dn : Nat) = B at *
  rcases B with ⟨bf, bd, bu, br⟩
  simp only at HBD
  simp only
  unfold DoIs
  have t1 : ¬ ((rdN fs dn : Nat) : Int) = 0 := by omega
  have t2 : (((rdN fs dn : Nat) : Int) == 0) = false := by simpa using t1
  generalize rdN fs dn = rd at *
  generalize ixZ fs nm = iz at *
  go_enter Tryz.func64, Tryz.ntmps64
  go_wp2_with (go_at_call 89; go_loud (refine hready.mono ?_; rintro e w1 ⟨rfl, hb⟩; obtain ⟨hR, d0, d1, d2, ⟨e0, e1, e2, g0, g1, g2⟩, hlt⟩ := HR0.out.fill hb; have HR1 := Lib.hid hR; clear hb hR))
  go_wp2_with (go_at_call 39; go_loud (refine (HFD.out _ HR1.out.st.files).mono ?_; rintro e w2 ⟨rfl, hb⟩; obtain ⟨hR, d0, d1, d2, ⟨e0, e1, e2, g0, g1, g2⟩, hlt⟩ := HR1.out.fill hb; have HR2 := Lib.hid hR; have hlt0 : w.heap.size < w2.heap.size := (by omega); clear hb hR))
  go_wp2_with (go_at_call 90; go_loud (refine (HBD.out _ HR2.out.st.files).mono ?_; rintro e w9 ⟨v9, rfl, hown, hb⟩; obtain ⟨a9, c9, rfl⟩ := hown.slice; have HO9 := Lib.hid (hown.le HR2.out.sz); have HB9 := Lib.hid (HR2.out.st.below.trans (hb.mono HR2.out.st.below.size)); obtain ⟨-, -, -, -, ⟨e0, e1, e2, g0, g1, g2⟩, hlt⟩ := HR2.out.fill hb; clear hown hb))
  refine bodyPost_disk rfl (w.heap.size + 1) (.slice a9 bf.length c9) bd bu rfl rfl ?_ ?_ ?_ ?_
  case refine_1 => go_simp
  case refine_2 => go_simp
  case refine_3 => go_simp
  case refine_4 =>
    refine ⟨_, rfl, Own.le (base := w.heap.size + 2) ?_ (by omega), ?_⟩
    · repeat (first | exact HO9.out | refine Own.sb ?_ (show w.heap.size + 1 < w.heap.size + 2 by omega) _ | refine Own.al ?_ _)
    · repeat (first | exact HB9.out | refine bset ?_ (show w.heap.size ≤ w.heap.size + 1 by omega) _ | refine Below.alloc ?_ (by simp; omega) _)

set_option maxRecDepth 100000 in
set_option maxHeartbeats 1500000 in
theorem addr_name (v : Value) (fs : List Fl) (fu : Int) (nm da : ByteArray) (_hlo : -9223372036854775808 ≤ fu) (_hhi : fu ≤ 9223372036854775807) (h40 : fs.length * 40 ≤ 140737488355328) (h0 : chkN fs = 0) (hm : nmOk nm = false) (w : World) (hv : Files w w.heap.size v fs) :
    Calls Tryz.prog 64 #[.agg #[v, .bool false, .int .i64 fu], .string nm, .string da] w (DoIs w (addO fs false fu nm da).fs (addO fs false fu nm da).dn (addO fs false fu nm da).fu (addO fs false fu nm da).r) := by
  have HV := Lib.hid hv
  obtain ⟨a, c, rfl, -⟩ := hv
  have HR0 := Lib.hid (R2.made (dn := false) (fu := fu) HV.out)
  have hready := ready_ref _ false fu fs _ HR0.out.st.files
  rw [show rdN fs false = 0 from (rd_zero h0)] at hready
  rw [show addO fs false fu nm da = badO fs false fu 5 by unfold addO; rw [show raN fs.length nm (hasN fs nm) = 5 by unfold raN; rw [hm]; rfl]; exact outO_ref h0 (by omega) (by omega)]
  have HFD : Hid (∀ w1, Files w1 w1.heap.size (.slice a fs.length c) fs → Calls Tryz.prog 39 #[.agg #[.slice a fs.length c, .bool false, .int .i64 fu], .string nm] w1 fun e w' => e = .returned (.int .i64 (ixZ fs nm)) ∧ Below w1.heap.size w1 w') := fun w1 hf => by
    have := find_ref _ false fu fs nm w1 hf
    skip
    exact this
  have HNM : Hid (∀ w1, Calls Tryz.prog 93 #[.string nm] w1 fun e w' => e = .returned (.bool false) ∧ w' = w1) := fun w1 => by
    have := name_ref nm w1
    rw [hm] at this
    exact this
  have HBD : Hid (∀ w1, Files w1 w1.heap.size (.slice a fs.length c) fs → Calls Tryz.prog 90 #[.agg #[.slice a fs.length c, .bool false, .int .i64 fu], .int .i64 5] w1 (DoIs w1 (badO fs false fu 5).fs (badO fs false fu 5).dn (badO fs false fu 5).fu (badO fs false fu 5).r)) := fun w1 hf => bad_ref _ false fu fs 5 w1 hf h40
  generalize badO fs false fu 5 = B at *
  rcases B with ⟨bf, bd, bu, br⟩
  simp only at HBD
  simp only
  unfold DoIs
  generalize ixZ fs nm = iz at *
  go_enter Tryz.func64, Tryz.ntmps64
  go_wp2_with (go_at_call 89; go_loud (refine hready.mono ?_; rintro e w1 ⟨rfl, hb⟩; obtain ⟨hR, d0, d1, d2, ⟨e0, e1, e2, g0, g1, g2⟩, hlt⟩ := HR0.out.fill hb; have HR1 := Lib.hid hR; clear hb hR))
  go_wp2_with (go_at_call 39; go_loud (refine (HFD.out _ HR1.out.st.files).mono ?_; rintro e w2 ⟨rfl, hb⟩; obtain ⟨hR, d0, d1, d2, ⟨e0, e1, e2, g0, g1, g2⟩, hlt⟩ := HR1.out.fill hb; have HR2 := Lib.hid hR; have hlt0 : w.heap.size < w2.heap.size := (by omega); clear hb hR))
  go_wp2_with (first | (go_at_call 93; go_loud (refine (HNM.out _).mono ?_; rintro e wn ⟨rfl, h9⟩; subst wn)) | (go_at_call 90; go_loud (refine (HBD.out _ HR2.out.st.files).mono ?_; rintro e w9 ⟨v9, rfl, hown, hb⟩; obtain ⟨a9, c9, rfl⟩ := hown.slice; have HO9 := Lib.hid (hown.le HR2.out.sz); have HB9 := Lib.hid (HR2.out.st.below.trans (hb.mono HR2.out.st.below.size)); obtain ⟨-, -, -, -, ⟨e0, e1, e2, g0, g1, g2⟩, hlt⟩ := HR2.out.fill hb; clear hown hb)))
  refine bodyPost_disk rfl (w.heap.size + 1) (.slice a9 bf.length c9) bd bu rfl rfl ?_ ?_ ?_ ?_
  case refine_1 => go_simp
  case refine_2 => go_simp
  case refine_3 => go_simp
  case refine_4 =>
    refine ⟨_, rfl, Own.le (base := w.heap.size + 2) ?_ (by omega), ?_⟩
    · repeat (first | exact HO9.out | refine Own.sb ?_ (show w.heap.size + 1 < w.heap.size + 2 by omega) _ | refine Own.al ?_ _)
    · repeat (first | exact HB9.out | refine bset ?_ (show w.heap.size ≤ w.heap.size + 1 by omega) _ | refine Below.alloc ?_ (by simp; omega) _)

set_option maxRecDepth 100000 in
set_option maxHeartbeats 1500000 in
theorem addr_full (v : Value) (fs : List Fl) (fu : Int) (nm da : ByteArray) (_hlo : -9223372036854775808 ≤ fu) (_hhi : fu ≤ 9223372036854775807) (h40 : fs.length * 40 ≤ 140737488355328) (h0 : chkN fs = 0) (hn : ¬ idxN fs nm < fs.length) (hm : nmOk nm = true) (hz : 4096 ≤ fs.length) (w : World) (hv : Files w w.heap.size v fs) :
    Calls Tryz.prog 64 #[.agg #[v, .bool false, .int .i64 fu], .string nm, .string da] w (DoIs w (addO fs false fu nm da).fs (addO fs false fu nm da).dn (addO fs false fu nm da).fu (addO fs false fu nm da).r) := by
  have HV := Lib.hid hv
  obtain ⟨a, c, rfl, -⟩ := hv
  have HR0 := Lib.hid (R2.made (dn := false) (fu := fu) HV.out)
  have hready := ready_ref _ false fu fs _ HR0.out.st.files
  rw [show rdN fs false = 0 from (rd_zero h0)] at hready
  have hhas : hasN fs nm = false := by unfold hasN; simpa using hn
  have hix : ixZ fs nm = -1 := by unfold ixZ; rw [if_neg hn]
  rw [show addO fs false fu nm da = badO fs false fu 11 by unfold addO; rw [show raN fs.length nm (hasN fs nm) = 11 by unfold raN; rw [hm, hhas, if_pos rfl, if_neg (by simp), if_pos hz]]; exact outO_ref h0 (by omega) (by omega)]
  have HFD : Hid (∀ w1, Files w1 w1.heap.size (.slice a fs.length c) fs → Calls Tryz.prog 39 #[.agg #[.slice a fs.length c, .bool false, .int .i64 fu], .string nm] w1 fun e w' => e = .returned (.int .i64 (-1)) ∧ Below w1.heap.size w1 w') := fun w1 hf => by
    have := find_ref _ false fu fs nm w1 hf
    rw [hix] at this
    exact this
  have HNM : Hid (∀ w1, Calls Tryz.prog 93 #[.string nm] w1 fun e w' => e = .returned (.bool true) ∧ w' = w1) := fun w1 => by
    have := name_ref nm w1
    rw [hm] at this
    exact this
  have HBD : Hid (∀ w1, Files w1 w1.heap.size (.slice a fs.length c) fs → Calls Tryz.prog 90 #[.agg #[.slice a fs.length c, .bool false, .int .i64 fu], .int .i64 11] w1 (DoIs w1 (badO fs false fu 11).fs (badO fs false fu 11).dn (badO fs false fu 11).fu (badO fs false fu 11).r)) := fun w1 hf => bad_ref _ false fu fs 11 w1 hf h40
  generalize badO fs false fu 11 = B at *
  rcases B with ⟨bf, bd, bu, br⟩
  simp only at HBD
  simp only
  unfold DoIs
  have t5 : (4096 : Int) ≤ (fs.length : Int) := by omega
  have t6 : 4096 ≤ fs.length := hz
  go_enter Tryz.func64, Tryz.ntmps64
  go_wp2_with (go_at_call 89; go_loud (refine hready.mono ?_; rintro e w1 ⟨rfl, hb⟩; obtain ⟨hR, d0, d1, d2, ⟨e0, e1, e2, g0, g1, g2⟩, hlt⟩ := HR0.out.fill hb; have HR1 := Lib.hid hR; clear hb hR))
  go_wp2_with (go_at_call 39; go_loud (refine (HFD.out _ HR1.out.st.files).mono ?_; rintro e w2 ⟨rfl, hb⟩; obtain ⟨hR, d0, d1, d2, ⟨e0, e1, e2, g0, g1, g2⟩, hlt⟩ := HR1.out.fill hb; have HR2 := Lib.hid hR; have hlt0 : w.heap.size < w2.heap.size := (by omega); clear hb hR))
  go_wp2_with (first | (go_at_call 93; go_loud (refine (HNM.out _).mono ?_; rintro e wn ⟨rfl, h9⟩; subst wn)) | (go_at_call 90; go_loud (refine (HBD.out _ HR2.out.st.files).mono ?_; rintro e w9 ⟨v9, rfl, hown, hb⟩; obtain ⟨a9, c9, rfl⟩ := hown.slice; have HO9 := Lib.hid (hown.le HR2.out.sz); have HB9 := Lib.hid (HR2.out.st.below.trans (hb.mono HR2.out.st.below.size)); obtain ⟨-, -, -, -, ⟨e0, e1, e2, g0, g1, g2⟩, hlt⟩ := HR2.out.fill hb; clear hown hb)))
  refine bodyPost_disk rfl (w.heap.size + 1) (.slice a9 bf.length c9) bd bu rfl rfl ?_ ?_ ?_ ?_
  case refine_1 => go_simp
  case refine_2 => go_simp
  case refine_3 => go_simp
  case refine_4 =>
    refine ⟨_, rfl, Own.le (base := w.heap.size + 2) ?_ (by omega), ?_⟩
    · repeat (first | exact HO9.out | refine Own.sb ?_ (show w.heap.size + 1 < w.heap.size + 2 by omega) _ | refine Own.al ?_ _)
    · repeat (first | exact HB9.out | refine bset ?_ (show w.heap.size ≤ w.heap.size + 1 by omega) _ | refine Below.alloc ?_ (by simp; omega) _)

set_option maxRecDepth 100000 in
set_option maxHeartbeats 1500000 in
theorem addr_hit_fus (v : Value) (fs : List Fl) (nm da : ByteArray) (_h40 : fs.length * 40 ≤ 140737488355328) (h0 : chkN fs = 0) (hm : nmOk nm = true) (hn : idxN fs nm < fs.length) (hzz : ∀ f ∈ fs, f.da.size + da.size ≤ 9223372036854775807) (w : World) (hv : Files w w.heap.size v fs) :
    Calls Tryz.prog 64 #[.agg #[v, .bool false, .int .i64 0], .string nm, .string da] w (DoIs w (addO fs false 0 nm da).fs (addO fs false 0 nm da).dn (addO fs false 0 nm da).fu (addO fs false 0 nm da).r) := by
  have HV := Lib.hid hv
  obtain ⟨a, c, rfl, -⟩ := hv
  have HR0 := Lib.hid (R2.made (dn := false) (fu := 0) HV.out)
  have hready := ready_ref _ false 0 fs _ HR0.out.st.files
  rw [show rdN fs false = 0 from (rd_zero h0)] at hready
  have hhas : hasN fs nm = true := by unfold hasN; simpa using hn
  have hix : ixZ fs nm = ((idxN fs nm : Nat) : Int) := by unfold ixZ; rw [if_pos hn]
  have hn1 : ((idxN fs nm : Nat) : Int) < (fs.length : Int) := by omega
  have hn2 : (0 : Int) ≤ ((idxN fs nm : Nat) : Int) := by omega
  have hn3 : decide (((idxN fs nm : Nat) : Int) < 0) = false := by simp
  have HFD : Hid (∀ w1, Files w1 w1.heap.size (.slice a fs.length c) fs → Calls Tryz.prog 39 #[.agg #[.slice a fs.length c, .bool false, .int .i64 0], .string nm] w1 fun e w' => e = .returned (.int .i64 ((idxN fs nm : Nat) : Int)) ∧ Below w1.heap.size w1 w') := fun w1 hf => by
    have := find_ref _ false 0 fs nm w1 hf
    rw [hix] at this
    exact this
  have hrs : raN fs.length nm (hasN fs nm) = 0 := by unfold raN; rw [hm, hhas]; rfl
  obtain ⟨h4, hok⟩ := chk_fine fs h0
  rw [show addO fs false 0 nm da = ⟨putF fs (addF fs nm da), true, 0, 8⟩ by unfold addO; rw [hrs, outO_fus h0]; rfl]
  have HBU : Hid (∀ (a1 : Option Addr) (n1 c1 : Nat) (w1 : World), Calls Tryz.prog 91 #[.agg #[.slice a1 n1 c1, .bool false, .int .i64 0]] w1 fun e w' => e = .returned (.tuple #[.agg #[.slice a1 n1 c1, .bool true, .int .i64 0], .bool false]) ∧ Below w1.heap.size w1 w') := fun a1 n1 c1 w1 => by
    have := burnt_ref a1 n1 c1 false 0 w1 (by omega) (by omega)
    rw [if_pos rfl, if_pos rfl, if_neg (by omega)] at this
    exact this
  have hfs : (⟨fs[idxN fs nm].nm, fs[idxN fs nm].da ++ da, fs[idxN fs nm].sy⟩ : Fl) = addF fs nm da := by unfold addF; rw [look_at fs nm hn]; simp only; rw [idx_nm fs nm hn]
  have HWT : Hid (∀ (w1 : World) (a1 : Option Addr) (c1 : Nat), Files w1 w1.heap.size (.slice a1 fs.length c1) fs → Calls Tryz.prog 94 #[.agg #[.slice a1 fs.length c1, .bool false, .int .i64 0], .agg #[.string fs[idxN fs nm].nm, .string (fs[idxN fs nm].da ++ da), .int .i64 fs[idxN fs nm].sy]] w1 (CopyIs w1 (putF fs (addF fs nm da)) false 0)) := fun w1 a1 c1 hf => by
    have := with_ref (.slice a1 fs.length c1) false 0 fs ⟨fs[idxN fs nm].nm, (fs[idxN fs nm].da ++ da), fs[idxN fs nm].sy⟩ w1 hf h4
    rw [wthF_put hok] at this
    rw [← hfs]
    exact this
  have HNM : Hid (∀ w1, Calls Tryz.prog 93 #[.string nm] w1 fun e w' => e = .returned (.bool true) ∧ w' = w1) := fun w1 => by
    have := name_ref nm w1
    rw [hm] at this
    exact this
  have hcat := hzz _ (List.getElem_mem hn)
  obtain ⟨a9, c9, he9, -, hf9, hc9⟩ := HV.out
  simp only [Value.slice.injEq] at he9
  obtain ⟨rfl, -, rfl⟩ := he9
  obtain ⟨b, off, rfl, hblt, hcc⟩ := hc9 (by omega)
  obtain ⟨p1, p2, p3⟩ := hcc _ hn
  have HP1 := Lib.hid p1
  have HP2 := Lib.hid p2
  have HP3 := Lib.hid p3
  have hsz9 : fs[idxN fs nm].da.size ≤ maxLen := (hf9 _ (List.getElem_mem hn)).1
  have hsz8 := (hf9 _ (List.getElem_mem hn)).2
  clear hc9 hcc p1 p2 p3 hf9
  clear hfs
  generalize putF fs (addF fs nm da) = fsB at *
  simp only
  unfold DoIs
  generalize fs[idxN fs nm] = f at *
  rcases f with ⟨xn, xd, xs⟩
  simp only at HP1 HP2 HP3 hsz9 hsz8 HWT hcat
  generalize idxN fs nm = k at *
  have t7 : ¬ (9223372036854775807 < xd.size + da.size) := by omega
  go_enter Tryz.func64, Tryz.ntmps64
  go_wp2_with (go_at_call 89; go_loud (refine hready.mono ?_; rintro e w1 ⟨rfl, hb⟩; obtain ⟨hR, d0, d1, d2, ⟨e0, e1, e2, g0, g1, g2⟩, hlt⟩ := HR0.out.fill hb; have HR1 := Lib.hid hR; clear hb hR))
  go_wp2_with (go_at_call 39; go_loud (refine (HFD.out _ HR1.out.st.files).mono ?_; rintro e w2 ⟨rfl, hb⟩; obtain ⟨hR, d0, d1, d2, ⟨e0, e1, e2, g0, g1, g2⟩, hlt⟩ := HR1.out.fill hb; have HR2 := Lib.hid hR; have hlt0 : w.heap.size < w2.heap.size := (by omega); clear hb hR; have p1 := (HR2.out.st.below.cell hblt).trans HP1.out; have p2 := (HR2.out.st.below.cell hblt).trans HP2.out; have p3 := (HR2.out.st.below.cell hblt).trans HP3.out; have hbl2 : b < w2.heap.size := (by have := HR2.out.sz; omega)))
  go_wp2_with (first | (go_at_call 93; go_loud (refine (HNM.out _).mono ?_; rintro e wn ⟨rfl, h9⟩; subst wn)) | (go_at_call 94; go_loud (refine (HWT.out _ _ _ (HR2.out.st.files.al _)).mono ?_; rintro e w3 ⟨v3, rfl, hown, hb0⟩; obtain ⟨a3, c3, rfl⟩ := hown.slice; have hb : Below w2.heap.size w2 w3 := ((Below.refl _ w2).alloc (Nat.le_refl _) _).trans (hb0.mono (by simp)); have HO3 := Lib.hid (hown.le (show w.heap.size + 2 ≤ _ by have := HR2.out.sz; simp; omega)); clear hown hb0; obtain ⟨hR, d0, d1, d2, ⟨e0, e1, e2, g0, g1, g2⟩, hlt⟩ := HR2.out.fill hb; have HR3 := Lib.hid hR; clear hb hR)) | (go_at_call 91; go_loud (refine (HBU.out _ _ _ _).mono ?_; rintro e w4 ⟨rfl, hb⟩; have HO4 := Lib.hid (HO3.out.keep hb); obtain ⟨hR, d0, d1, d2, ⟨e0, e1, e2, g0, g1, g2⟩, hlt⟩ := HR3.out.fill hb; have HR4 := Lib.hid hR; clear hb hR)))
  have HB4 := Lib.hid HR4.out.st.below
  have hs4 := HR4.out.sz
  refine bodyPost_disk rfl (w.heap.size + 1) (.slice a3 fsB.length c3) true 0 rfl rfl ?_ ?_ ?_ ?_
  case refine_1 => go_simp
  case refine_2 => go_simp
  case refine_3 => go_simp
  case refine_4 =>
    refine ⟨_, rfl, Own.le (base := w.heap.size + 2) ?_ (by omega), ?_⟩
    · repeat (first | exact HO4.out | refine Own.sb ?_ (show w.heap.size + 1 < w.heap.size + 2 by omega) _ | refine Own.al ?_ _)
    · repeat (first | exact HB4.out | refine bset ?_ (show w.heap.size ≤ w.heap.size + 1 by omega) _ | refine Below.alloc ?_ (by simp; omega) _)

set_option maxRecDepth 100000 in
set_option maxHeartbeats 1500000 in
theorem addr_hit_run (v : Value) (fs : List Fl) (fu : Int) (nm da : ByteArray) (hlo : -9223372036854775808 ≤ fu) (hhi : fu ≤ 9223372036854775807) (_h40 : fs.length * 40 ≤ 140737488355328) (h0 : chkN fs = 0) (hm : nmOk nm = true) (hn : idxN fs nm < fs.length) (hzz : ∀ f ∈ fs, f.da.size + da.size ≤ 9223372036854775807) (hf0 : fu ≠ 0) (w : World) (hv : Files w w.heap.size v fs) :
    Calls Tryz.prog 64 #[.agg #[v, .bool false, .int .i64 fu], .string nm, .string da] w (DoIs w (addO fs false fu nm da).fs (addO fs false fu nm da).dn (addO fs false fu nm da).fu (addO fs false fu nm da).r) := by
  have HV := Lib.hid hv
  obtain ⟨a, c, rfl, -⟩ := hv
  have HR0 := Lib.hid (R2.made (dn := false) (fu := fu) HV.out)
  have hready := ready_ref _ false fu fs _ HR0.out.st.files
  rw [show rdN fs false = 0 from (rd_zero h0)] at hready
  have hhas : hasN fs nm = true := by unfold hasN; simpa using hn
  have hix : ixZ fs nm = ((idxN fs nm : Nat) : Int) := by unfold ixZ; rw [if_pos hn]
  have hn1 : ((idxN fs nm : Nat) : Int) < (fs.length : Int) := by omega
  have hn2 : (0 : Int) ≤ ((idxN fs nm : Nat) : Int) := by omega
  have hn3 : decide (((idxN fs nm : Nat) : Int) < 0) = false := by simp
  have HFD : Hid (∀ w1, Files w1 w1.heap.size (.slice a fs.length c) fs → Calls Tryz.prog 39 #[.agg #[.slice a fs.length c, .bool false, .int .i64 fu], .string nm] w1 fun e w' => e = .returned (.int .i64 ((idxN fs nm : Nat) : Int)) ∧ Below w1.heap.size w1 w') := fun w1 hf => by
    have := find_ref _ false fu fs nm w1 hf
    rw [hix] at this
    exact this
  have hrs : raN fs.length nm (hasN fs nm) = 0 := by unfold raN; rw [hm, hhas]; rfl
  obtain ⟨h4, hok⟩ := chk_fine fs h0
  obtain ⟨fu2, hfu2⟩ : ∃ x : Int, x = (if 0 < fu then fu - 1 else fu) := ⟨_, rfl⟩
  rw [show addO fs false fu nm da = ⟨putF fs (addF fs nm da), false, fu2, 0⟩ by unfold addO; rw [hrs, outO_run h0 hf0, hfu2]]
  have HBU : Hid (∀ (a1 : Option Addr) (n1 c1 : Nat) (w1 : World), Calls Tryz.prog 91 #[.agg #[.slice a1 n1 c1, .bool false, .int .i64 fu]] w1 fun e w' => e = .returned (.tuple #[.agg #[.slice a1 n1 c1, .bool false, .int .i64 fu2], .bool true]) ∧ Below w1.heap.size w1 w') := fun a1 n1 c1 w1 => by
    have := burnt_ref a1 n1 c1 false fu w1 hlo hhi
    rw [if_neg hf0, if_neg hf0, ← hfu2] at this
    exact this
  have hfs : (⟨fs[idxN fs nm].nm, fs[idxN fs nm].da ++ da, fs[idxN fs nm].sy⟩ : Fl) = addF fs nm da := by unfold addF; rw [look_at fs nm hn]; simp only; rw [idx_nm fs nm hn]
  have HWT : Hid (∀ (w1 : World) (a1 : Option Addr) (c1 : Nat), Files w1 w1.heap.size (.slice a1 fs.length c1) fs → Calls Tryz.prog 94 #[.agg #[.slice a1 fs.length c1, .bool false, .int .i64 fu], .agg #[.string fs[idxN fs nm].nm, .string (fs[idxN fs nm].da ++ da), .int .i64 fs[idxN fs nm].sy]] w1 (CopyIs w1 (putF fs (addF fs nm da)) false fu)) := fun w1 a1 c1 hf => by
    have := with_ref (.slice a1 fs.length c1) false fu fs ⟨fs[idxN fs nm].nm, (fs[idxN fs nm].da ++ da), fs[idxN fs nm].sy⟩ w1 hf h4
    rw [wthF_put hok] at this
    rw [← hfs]
    exact this
  have HNM : Hid (∀ w1, Calls Tryz.prog 93 #[.string nm] w1 fun e w' => e = .returned (.bool true) ∧ w' = w1) := fun w1 => by
    have := name_ref nm w1
    rw [hm] at this
    exact this
  have hcat := hzz _ (List.getElem_mem hn)
  obtain ⟨a9, c9, he9, -, hf9, hc9⟩ := HV.out
  simp only [Value.slice.injEq] at he9
  obtain ⟨rfl, -, rfl⟩ := he9
  obtain ⟨b, off, rfl, hblt, hcc⟩ := hc9 (by omega)
  obtain ⟨p1, p2, p3⟩ := hcc _ hn
  have HP1 := Lib.hid p1
  have HP2 := Lib.hid p2
  have HP3 := Lib.hid p3
  have hsz9 : fs[idxN fs nm].da.size ≤ maxLen := (hf9 _ (List.getElem_mem hn)).1
  have hsz8 := (hf9 _ (List.getElem_mem hn)).2
  clear hc9 hcc p1 p2 p3 hf9
  clear hfs hfu2
  generalize putF fs (addF fs nm da) = fsB at *
  simp only
  unfold DoIs
  generalize fs[idxN fs nm] = f at *
  rcases f with ⟨xn, xd, xs⟩
  simp only at HP1 HP2 HP3 hsz9 hsz8 HWT hcat
  generalize idxN fs nm = k at *
  have t7 : ¬ (9223372036854775807 < xd.size + da.size) := by omega
  go_enter Tryz.func64, Tryz.ntmps64
  go_wp2_with (go_at_call 89; go_loud (refine hready.mono ?_; rintro e w1 ⟨rfl, hb⟩; obtain ⟨hR, d0, d1, d2, ⟨e0, e1, e2, g0, g1, g2⟩, hlt⟩ := HR0.out.fill hb; have HR1 := Lib.hid hR; clear hb hR))
  go_wp2_with (go_at_call 39; go_loud (refine (HFD.out _ HR1.out.st.files).mono ?_; rintro e w2 ⟨rfl, hb⟩; obtain ⟨hR, d0, d1, d2, ⟨e0, e1, e2, g0, g1, g2⟩, hlt⟩ := HR1.out.fill hb; have HR2 := Lib.hid hR; have hlt0 : w.heap.size < w2.heap.size := (by omega); clear hb hR; have p1 := (HR2.out.st.below.cell hblt).trans HP1.out; have p2 := (HR2.out.st.below.cell hblt).trans HP2.out; have p3 := (HR2.out.st.below.cell hblt).trans HP3.out; have hbl2 : b < w2.heap.size := (by have := HR2.out.sz; omega)))
  go_wp2_with (first | (go_at_call 93; go_loud (refine (HNM.out _).mono ?_; rintro e wn ⟨rfl, h9⟩; subst wn)) | (go_at_call 94; go_loud (refine (HWT.out _ _ _ (HR2.out.st.files.al _)).mono ?_; rintro e w3 ⟨v3, rfl, hown, hb0⟩; obtain ⟨a3, c3, rfl⟩ := hown.slice; have hb : Below w2.heap.size w2 w3 := ((Below.refl _ w2).alloc (Nat.le_refl _) _).trans (hb0.mono (by simp)); have HO3 := Lib.hid (hown.le (show w.heap.size + 2 ≤ _ by have := HR2.out.sz; simp; omega)); clear hown hb0; obtain ⟨hR, d0, d1, d2, ⟨e0, e1, e2, g0, g1, g2⟩, hlt⟩ := HR2.out.fill hb; have HR3 := Lib.hid hR; clear hb hR)) | (go_at_call 91; go_loud (refine (HBU.out _ _ _ _).mono ?_; rintro e w4 ⟨rfl, hb⟩; have HO4 := Lib.hid (HO3.out.keep hb); obtain ⟨hR, d0, d1, d2, ⟨e0, e1, e2, g0, g1, g2⟩, hlt⟩ := HR3.out.fill hb; have HR4 := Lib.hid hR; clear hb hR)))
  have HB4 := Lib.hid HR4.out.st.below
  have hs4 := HR4.out.sz
  refine bodyPost_disk rfl (w.heap.size + 1) (.slice a3 fsB.length c3) false fu2 rfl rfl ?_ ?_ ?_ ?_
  case refine_1 => go_simp
  case refine_2 => go_simp
  case refine_3 => go_simp
  case refine_4 =>
    refine ⟨_, rfl, Own.le (base := w.heap.size + 2) ?_ (by omega), ?_⟩
    · repeat (first | exact HO4.out | refine Own.sb ?_ (show w.heap.size + 1 < w.heap.size + 2 by omega) _ | refine Own.al ?_ _)
    · repeat (first | exact HB4.out | refine bset ?_ (show w.heap.size ≤ w.heap.size + 1 by omega) _ | refine Below.alloc ?_ (by simp; omega) _)

set_option maxRecDepth 100000 in
set_option maxHeartbeats 1500000 in
theorem addr_miss_fus (v : Value) (fs : List Fl) (nm da : ByteArray) (_h40 : fs.length * 40 ≤ 140737488355328) (h0 : chkN fs = 0) (hm : nmOk nm = true) (hn : ¬ idxN fs nm < fs.length) (hz : ¬ 4096 ≤ fs.length) (hz0 : da.size ≤ 9223372036854775807) (w : World) (hv : Files w w.heap.size v fs) :
    Calls Tryz.prog 64 #[.agg #[v, .bool false, .int .i64 0], .string nm, .string da] w (DoIs w (addO fs false 0 nm da).fs (addO fs false 0 nm da).dn (addO fs false 0 nm da).fu (addO fs false 0 nm da).r) := by
  have HV := Lib.hid hv
  obtain ⟨a, c, rfl, -⟩ := hv
  have HR0 := Lib.hid (R2.made (dn := false) (fu := 0) HV.out)
  have hready := ready_ref _ false 0 fs _ HR0.out.st.files
  rw [show rdN fs false = 0 from (rd_zero h0)] at hready
  have hhas : hasN fs nm = false := by unfold hasN; simpa using hn
  have hix : ixZ fs nm = -1 := by unfold ixZ; rw [if_neg hn]
  have HFD : Hid (∀ w1, Files w1 w1.heap.size (.slice a fs.length c) fs → Calls Tryz.prog 39 #[.agg #[.slice a fs.length c, .bool false, .int .i64 0], .string nm] w1 fun e w' => e = .returned (.int .i64 (-1)) ∧ Below w1.heap.size w1 w') := fun w1 hf => by
    have := find_ref _ false 0 fs nm w1 hf
    rw [hix] at this
    exact this
  have hrs : raN fs.length nm (hasN fs nm) = 0 := by unfold raN; rw [hm, hhas, if_pos rfl, if_neg (by simp), if_neg hz]
  obtain ⟨h4, hok⟩ := chk_fine fs h0
  rw [show addO fs false 0 nm da = ⟨putF fs (addF fs nm da), true, 0, 8⟩ by unfold addO; rw [hrs, outO_fus h0]; rfl]
  have HBU : Hid (∀ (a1 : Option Addr) (n1 c1 : Nat) (w1 : World), Calls Tryz.prog 91 #[.agg #[.slice a1 n1 c1, .bool false, .int .i64 0]] w1 fun e w' => e = .returned (.tuple #[.agg #[.slice a1 n1 c1, .bool true, .int .i64 0], .bool false]) ∧ Below w1.heap.size w1 w') := fun a1 n1 c1 w1 => by
    have := burnt_ref a1 n1 c1 false 0 w1 (by omega) (by omega)
    rw [if_pos rfl, if_pos rfl, if_neg (by omega)] at this
    exact this
  have hfs : (⟨nm, ByteArray.empty ++ da, 0⟩ : Fl) = addF fs nm da := by unfold addF; rw [look_miss fs nm hn]; simp only [ByteArray.empty_append]
  have HWT : Hid (∀ (w1 : World) (a1 : Option Addr) (c1 : Nat), Files w1 w1.heap.size (.slice a1 fs.length c1) fs → Calls Tryz.prog 94 #[.agg #[.slice a1 fs.length c1, .bool false, .int .i64 0], .agg #[.string nm, .string (ByteArray.empty ++ da), .int .i64 0]] w1 (CopyIs w1 (putF fs (addF fs nm da)) false 0)) := fun w1 a1 c1 hf => by
    have := with_ref (.slice a1 fs.length c1) false 0 fs ⟨nm, (ByteArray.empty ++ da), 0⟩ w1 hf h4
    rw [wthF_put hok] at this
    rw [← hfs]
    exact this
  have HNM : Hid (∀ w1, Calls Tryz.prog 93 #[.string nm] w1 fun e w' => e = .returned (.bool true) ∧ w' = w1) := fun w1 => by
    have := name_ref nm w1
    rw [hm] at this
    exact this
  clear hfs
  generalize putF fs (addF fs nm da) = fsB at *
  simp only
  unfold DoIs
  have t7 : ¬ (9223372036854775807 < ByteArray.empty.size + da.size) := by simp; omega
  have t5 : decide ((4096 : Int) ≤ (fs.length : Int)) = false := by simp; omega
  have t6 : decide (4096 ≤ fs.length) = false := by simp; omega
  go_enter Tryz.func64, Tryz.ntmps64
  go_wp2_with (go_at_call 89; go_loud (refine hready.mono ?_; rintro e w1 ⟨rfl, hb⟩; obtain ⟨hR, d0, d1, d2, ⟨e0, e1, e2, g0, g1, g2⟩, hlt⟩ := HR0.out.fill hb; have HR1 := Lib.hid hR; clear hb hR))
  go_wp2_with (go_at_call 39; go_loud (refine (HFD.out _ HR1.out.st.files).mono ?_; rintro e w2 ⟨rfl, hb⟩; obtain ⟨hR, d0, d1, d2, ⟨e0, e1, e2, g0, g1, g2⟩, hlt⟩ := HR1.out.fill hb; have HR2 := Lib.hid hR; have hlt0 : w.heap.size < w2.heap.size := (by omega); clear hb hR))
  go_wp2_with (first | (go_at_call 93; go_loud (refine (HNM.out _).mono ?_; rintro e wn ⟨rfl, h9⟩; subst wn)) | (go_at_call 94; go_loud (refine (HWT.out _ _ _ (HR2.out.st.files.al _)).mono ?_; rintro e w3 ⟨v3, rfl, hown, hb0⟩; obtain ⟨a3, c3, rfl⟩ := hown.slice; have hb : Below w2.heap.size w2 w3 := ((Below.refl _ w2).alloc (Nat.le_refl _) _).trans (hb0.mono (by simp)); have HO3 := Lib.hid (hown.le (show w.heap.size + 2 ≤ _ by have := HR2.out.sz; simp; omega)); clear hown hb0; obtain ⟨hR, d0, d1, d2, ⟨e0, e1, e2, g0, g1, g2⟩, hlt⟩ := HR2.out.fill hb; have HR3 := Lib.hid hR; clear hb hR)) | (go_at_call 91; go_loud (refine (HBU.out _ _ _ _).mono ?_; rintro e w4 ⟨rfl, hb⟩; have HO4 := Lib.hid (HO3.out.keep hb); obtain ⟨hR, d0, d1, d2, ⟨e0, e1, e2, g0, g1, g2⟩, hlt⟩ := HR3.out.fill hb; have HR4 := Lib.hid hR; clear hb hR)))
  have HB4 := Lib.hid HR4.out.st.below
  have hs4 := HR4.out.sz
  refine bodyPost_disk rfl (w.heap.size + 1) (.slice a3 fsB.length c3) true 0 rfl rfl ?_ ?_ ?_ ?_
  case refine_1 => go_simp
  case refine_2 => go_simp
  case refine_3 => go_simp
  case refine_4 =>
    refine ⟨_, rfl, Own.le (base := w.heap.size + 2) ?_ (by omega), ?_⟩
    · repeat (first | exact HO4.out | refine Own.sb ?_ (show w.heap.size + 1 < w.heap.size + 2 by omega) _ | refine Own.al ?_ _)
    · repeat (first | exact HB4.out | refine bset ?_ (show w.heap.size ≤ w.heap.size + 1 by omega) _ | refine Below.alloc ?_ (by simp; omega) _)

set_option maxRecDepth 100000 in
set_option maxHeartbeats 1500000 in
theorem addr_miss_run (v : Value) (fs : List Fl) (fu : Int) (nm da : ByteArray) (hlo : -9223372036854775808 ≤ fu) (hhi : fu ≤ 9223372036854775807) (_h40 : fs.length * 40 ≤ 140737488355328) (h0 : chkN fs = 0) (hm : nmOk nm = true) (hn : ¬ idxN fs nm < fs.length) (hz : ¬ 4096 ≤ fs.length) (hz0 : da.size ≤ 9223372036854775807) (hf0 : fu ≠ 0) (w : World) (hv : Files w w.heap.size v fs) :
    Calls Tryz.prog 64 #[.agg #[v, .bool false, .int .i64 fu], .string nm, .string da] w (DoIs w (addO fs false fu nm da).fs (addO fs false fu nm da).dn (addO fs false fu nm da).fu (addO fs false fu nm da).r) := by
  have HV := Lib.hid hv
  obtain ⟨a, c, rfl, -⟩ := hv
  have HR0 := Lib.hid (R2.made (dn := false) (fu := fu) HV.out)
  have hready := ready_ref _ false fu fs _ HR0.out.st.files
  rw [show rdN fs false = 0 from (rd_zero h0)] at hready
  have hhas : hasN fs nm = false := by unfold hasN; simpa using hn
  have hix : ixZ fs nm = -1 := by unfold ixZ; rw [if_neg hn]
  have HFD : Hid (∀ w1, Files w1 w1.heap.size (.slice a fs.length c) fs → Calls Tryz.prog 39 #[.agg #[.slice a fs.length c, .bool false, .int .i64 fu], .string nm] w1 fun e w' => e = .returned (.int .i64 (-1)) ∧ Below w1.heap.size w1 w') := fun w1 hf => by
    have := find_ref _ false fu fs nm w1 hf
    rw [hix] at this
    exact this
  have hrs : raN fs.length nm (hasN fs nm) = 0 := by unfold raN; rw [hm, hhas, if_pos rfl, if_neg (by simp), if_neg hz]
  obtain ⟨h4, hok⟩ := chk_fine fs h0
  obtain ⟨fu2, hfu2⟩ : ∃ x : Int, x = (if 0 < fu then fu - 1 else fu) := ⟨_, rfl⟩
  rw [show addO fs false fu nm da = ⟨putF fs (addF fs nm da), false, fu2, 0⟩ by unfold addO; rw [hrs, outO_run h0 hf0, hfu2]]
  have HBU : Hid (∀ (a1 : Option Addr) (n1 c1 : Nat) (w1 : World), Calls Tryz.prog 91 #[.agg #[.slice a1 n1 c1, .bool false, .int .i64 fu]] w1 fun e w' => e = .returned (.tuple #[.agg #[.slice a1 n1 c1, .bool false, .int .i64 fu2], .bool true]) ∧ Below w1.heap.size w1 w') := fun a1 n1 c1 w1 => by
    have := burnt_ref a1 n1 c1 false fu w1 hlo hhi
    rw [if_neg hf0, if_neg hf0, ← hfu2] at this
    exact this
  have hfs : (⟨nm, ByteArray.empty ++ da, 0⟩ : Fl) = addF fs nm da := by unfold addF; rw [look_miss fs nm hn]; simp only [ByteArray.empty_append]
  have HWT : Hid (∀ (w1 : World) (a1 : Option Addr) (c1 : Nat), Files w1 w1.heap.size (.slice a1 fs.length c1) fs → Calls Tryz.prog 94 #[.agg #[.slice a1 fs.length c1, .bool false, .int .i64 fu], .agg #[.string nm, .string (ByteArray.empty ++ da), .int .i64 0]] w1 (CopyIs w1 (putF fs (addF fs nm da)) false fu)) := fun w1 a1 c1 hf => by
    have := with_ref (.slice a1 fs.length c1) false fu fs ⟨nm, (ByteArray.empty ++ da), 0⟩ w1 hf h4
    rw [wthF_put hok] at this
    rw [← hfs]
    exact this
  have HNM : Hid (∀ w1, Calls Tryz.prog 93 #[.string nm] w1 fun e w' => e = .returned (.bool true) ∧ w' = w1) := fun w1 => by
    have := name_ref nm w1
    rw [hm] at this
    exact this
  clear hfs hfu2
  generalize putF fs (addF fs nm da) = fsB at *
  simp only
  unfold DoIs
  have t7 : ¬ (9223372036854775807 < ByteArray.empty.size + da.size) := by simp; omega
  have t5 : decide ((4096 : Int) ≤ (fs.length : Int)) = false := by simp; omega
  have t6 : decide (4096 ≤ fs.length) = false := by simp; omega
  go_enter Tryz.func64, Tryz.ntmps64
  go_wp2_with (go_at_call 89; go_loud (refine hready.mono ?_; rintro e w1 ⟨rfl, hb⟩; obtain ⟨hR, d0, d1, d2, ⟨e0, e1, e2, g0, g1, g2⟩, hlt⟩ := HR0.out.fill hb; have HR1 := Lib.hid hR; clear hb hR))
  go_wp2_with (go_at_call 39; go_loud (refine (HFD.out _ HR1.out.st.files).mono ?_; rintro e w2 ⟨rfl, hb⟩; obtain ⟨hR, d0, d1, d2, ⟨e0, e1, e2, g0, g1, g2⟩, hlt⟩ := HR1.out.fill hb; have HR2 := Lib.hid hR; have hlt0 : w.heap.size < w2.heap.size := (by omega); clear hb hR))
  go_wp2_with (first | (go_at_call 93; go_loud (refine (HNM.out _).mono ?_; rintro e wn ⟨rfl, h9⟩; subst wn)) | (go_at_call 94; go_loud (refine (HWT.out _ _ _ (HR2.out.st.files.al _)).mono ?_; rintro e w3 ⟨v3, rfl, hown, hb0⟩; obtain ⟨a3, c3, rfl⟩ := hown.slice; have hb : Below w2.heap.size w2 w3 := ((Below.refl _ w2).alloc (Nat.le_refl _) _).trans (hb0.mono (by simp)); have HO3 := Lib.hid (hown.le (show w.heap.size + 2 ≤ _ by have := HR2.out.sz; simp; omega)); clear hown hb0; obtain ⟨hR, d0, d1, d2, ⟨e0, e1, e2, g0, g1, g2⟩, hlt⟩ := HR2.out.fill hb; have HR3 := Lib.hid hR; clear hb hR)) | (go_at_call 91; go_loud (refine (HBU.out _ _ _ _).mono ?_; rintro e w4 ⟨rfl, hb⟩; have HO4 := Lib.hid (HO3.out.keep hb); obtain ⟨hR, d0, d1, d2, ⟨e0, e1, e2, g0, g1, g2⟩, hlt⟩ := HR3.out.fill hb; have HR4 := Lib.hid hR; clear hb hR)))
  have HB4 := Lib.hid HR4.out.st.below
  have hs4 := HR4.out.sz
  refine bodyPost_disk rfl (w.heap.size + 1) (.slice a3 fsB.length c3) false fu2 rfl rfl ?_ ?_ ?_ ?_
  case refine_1 => go_simp
  case refine_2 => go_simp
  case refine_3 => go_simp
  case refine_4 =>
    refine ⟨_, rfl, Own.le (base := w.heap.size + 2) ?_ (by omega), ?_⟩
    · repeat (first | exact HO4.out | refine Own.sb ?_ (show w.heap.size + 1 < w.heap.size + 2 by omega) _ | refine Own.al ?_ _)
    · repeat (first | exact HB4.out | refine bset ?_ (show w.heap.size ≤ w.heap.size + 1 by omega) _ | refine Below.alloc ?_ (by simp; omega) _)
end Dk
end Go.Proofs.YtgahilemlnoabaaGreat

/- The document's Sync, Cut and Add, whatever the disk is. -/
namespace Go.Proofs.YtgahilemlnoabaaGreat
open Go.RowKit Go.Lib Go.Sort
namespace Dk
theorem sync_ref (v : Value) (fs : List Fl) (dn : Bool) (fu : Int) (nm : ByteArray) (hlo : -9223372036854775808 ≤ fu) (hhi : fu ≤ 9223372036854775807) (h40 : fs.length * 40 ≤ 140737488355328) (w : World) (hv : Files w w.heap.size v fs) :
    Calls Tryz.prog 65 #[.agg #[v, .bool dn, .int .i64 fu], .string nm] w (DoIs w (synO fs dn fu nm).fs (synO fs dn fu nm).dn (synO fs dn fu nm).fu (synO fs dn fu nm).r) := by
  by_cases hr0 : rdN fs dn = 0
  · obtain ⟨h0, rfl⟩ := rd_chk fs dn hr0
    by_cases hn : idxN fs nm < fs.length
    · by_cases hf0 : fu = 0
      · subst hf0; exact sync_fus v fs nm h40 h0 hn w hv
      · exact sync_run v fs fu nm hlo hhi h40 h0 hn hf0 w hv
    · exact sync_none v fs fu nm hlo hhi h40 h0 hn w hv
  · exact sync_bad v fs dn fu nm hlo hhi h40 hr0 w hv
theorem add_ref (v : Value) (fs : List Fl) (dn : Bool) (fu : Int) (nm da : ByteArray) (hlo : -9223372036854775808 ≤ fu) (hhi : fu ≤ 9223372036854775807) (h40 : fs.length * 40 ≤ 140737488355328) (hz0 : da.size ≤ 9223372036854775807) (hzz : ∀ f ∈ fs, f.da.size + da.size ≤ 9223372036854775807) (w : World) (hv : Files w w.heap.size v fs) :
    Calls Tryz.prog 64 #[.agg #[v, .bool dn, .int .i64 fu], .string nm, .string da] w (DoIs w (addO fs dn fu nm da).fs (addO fs dn fu nm da).dn (addO fs dn fu nm da).fu (addO fs dn fu nm da).r) := by
  by_cases hr0 : rdN fs dn = 0
  · obtain ⟨h0, rfl⟩ := rd_chk fs dn hr0
    cases hm : nmOk nm with
    | false => exact addr_name v fs fu nm da hlo hhi h40 h0 hm w hv
    | true =>
      by_cases hn : idxN fs nm < fs.length
      · by_cases hf0 : fu = 0
        · subst hf0; exact addr_hit_fus v fs nm da h40 h0 hm hn hzz w hv
        · exact addr_hit_run v fs fu nm da hlo hhi h40 h0 hm hn hzz hf0 w hv
      · by_cases hz : 4096 ≤ fs.length
        · exact addr_full v fs fu nm da hlo hhi h40 h0 hn hm hz w hv
        · by_cases hf0 : fu = 0
          · subst hf0; exact addr_miss_fus v fs nm da h40 h0 hm hn hz hz0 w hv
          · exact addr_miss_run v fs fu nm da hlo hhi h40 h0 hm hn hz hz0 hf0 w hv
  · exact addr_bad v fs dn fu nm da hlo hhi h40 hr0 w hv
theorem outO_fine {fs : List Fl} {dn : Bool} {fu : Int} {r : Nat} {ch : List Fl} {ad : Bool} (hf : Fine fs) (hl : fs.length ≤ 4611686018427387904) (hc : chkN fs = 0 → r = 0 → Fine ch ∧ ch.length ≤ 4611686018427387904) :
    Fine (outO fs dn fu r ch ad).fs ∧ (outO fs dn fu r ch ad).fs.length ≤ 4611686018427387904 := by
  unfold outO
  by_cases h0 : chkN fs = 0
  · rw [if_pos h0]
    cases dn with
    | true => exact ⟨hf, hl⟩
    | false =>
      rw [if_neg (by simp)]
      by_cases hr : r = 0
      · rw [if_pos hr]
        by_cases hfu : fu = 0
        · rw [if_pos hfu]
          cases ad
          · exact ⟨hf, hl⟩
          · exact hc h0 hr
        · rw [if_neg hfu]; exact hc h0 hr
      · rw [if_neg hr]; exact ⟨hf, hl⟩
  · rw [if_neg h0]; exact ⟨fun f hf => by simp at hf, by simp⟩
theorem put_both {fs : List Fl} (hf : Fine fs) (h0 : chkN fs = 0) (f : Fl) (h1 : f.da.size ≤ maxLen ∧ -9223372036854775808 ≤ f.sy ∧ f.sy ≤ 9223372036854775807) : Fine (putF fs f) ∧ (putF fs f).length ≤ 4611686018427387904 := by
  obtain ⟨h4, hok⟩ := chk_fine fs h0
  refine ⟨put_fine hf hok f h1, ?_⟩
  rw [put_len _ hok]; split <;> omega
theorem addO_fine {fs : List Fl} {dn : Bool} {fu : Int} {nm da : ByteArray} (hf : Fine fs) (hl : fs.length ≤ 4611686018427387904) (hz0 : da.size ≤ 9223372036854775807) (hz : ∀ f ∈ fs, f.da.size + da.size ≤ 9223372036854775807) : Fine (addO fs dn fu nm da).fs ∧ (addO fs dn fu nm da).fs.length ≤ 4611686018427387904 := by
  refine outO_fine hf hl (fun h0 _ => put_both hf h0 _ ?_)
  unfold addF
  cases hl : look fs nm with
  | none => simp only [maxLen]; exact ⟨by omega, by omega, by omega⟩
  | some f =>
    obtain ⟨hm, -⟩ := look_mem hl
    have h1 := hz f hm
    have h2 := hf f hm
    simp only [maxLen]
    rw [ByteArray.size_append]
    exact ⟨by omega, h2.2⟩
theorem synO_fine {fs : List Fl} {dn : Bool} {fu : Int} {nm : ByteArray} (hf : Fine fs) (hl : fs.length ≤ 4611686018427387904) : Fine (synO fs dn fu nm).fs ∧ (synO fs dn fu nm).fs.length ≤ 4611686018427387904 := by
  refine outO_fine hf hl (fun h0 _ => put_both hf h0 _ ?_)
  unfold synF
  cases hl : look fs nm with
  | none => simp only [maxLen]; exact ⟨by show (0 : Nat) ≤ _; omega, by omega, by omega⟩
  | some f =>
    have h2 := (hf f (look_mem hl).1).1
    simp only [maxLen] at *
    exact ⟨h2, by omega, by omega⟩
theorem cutO_fine {fs : List Fl} {dn : Bool} {fu : Int} {nm : ByteArray} {sz : Int} (hf : Fine fs) (hl : fs.length ≤ 4611686018427387904) : Fine (cutO fs dn fu nm sz).fs ∧ (cutO fs dn fu nm sz).fs.length ≤ 4611686018427387904 := by
  refine outO_fine hf hl (fun h0 hr => put_both hf h0 _ ?_)
  unfold cutF
  cases hl : look fs nm with
  | none => simp only [maxLen]; exact ⟨by show (0 : Nat) ≤ _; omega, by omega, by omega⟩
  | some f =>
    have h2 := hf f (look_mem hl).1
    unfold rcN at hr
    have hl' : fs[idxN fs nm]? = some f := hl
    rw [hl'] at hr
    simp only at hr
    split at hr
    · cases hr
    · rename_i h9
      simp only [maxLen] at *
      rw [ByteArray.size_extract]
      exact ⟨by omega, by omega, by omega⟩
end Dk
end Go.Proofs.YtgahilemlnoabaaGreat

/- The document's Swap and Drop, whatever the disk is. -/
namespace Go.Proofs.YtgahilemlnoabaaGreat
open Go.RowKit Go.Lib Go.Sort
namespace Dk
theorem drop_ref (v : Value) (fs : List Fl) (dn : Bool) (fu : Int) (nm : ByteArray) (hlo : -9223372036854775808 ≤ fu) (hhi : fu ≤ 9223372036854775807) (h40 : fs.length * 40 ≤ 140737488355328) (w : World) (hv : Files w w.heap.size v fs) :
    Calls Tryz.prog 63 #[.agg #[v, .bool dn, .int .i64 fu], .string nm] w (DoIs w (drpO fs dn fu nm).fs (drpO fs dn fu nm).dn (drpO fs dn fu nm).fu (drpO fs dn fu nm).r) := by
  by_cases hr0 : rdN fs dn = 0
  · obtain ⟨h0, rfl⟩ := rd_chk fs dn hr0
    by_cases hn : idxN fs nm < fs.length
    · by_cases hf0 : fu = 0
      · subst hf0; exact drop_fus v fs nm h40 h0 hn w hv
      · exact drop_run v fs fu nm hlo hhi h40 h0 hn hf0 w hv
    · exact drop_none v fs fu nm hlo hhi h40 h0 hn w hv
  · exact drop_bad v fs dn fu nm hlo hhi h40 hr0 w hv
theorem swap_ref (v : Value) (fs : List Fl) (dn : Bool) (fu : Int) (nm to : ByteArray) (hlo : -9223372036854775808 ≤ fu) (hhi : fu ≤ 9223372036854775807) (h40 : fs.length * 40 ≤ 140737488355328) (w : World) (hv : Files w w.heap.size v fs) :
    Calls Tryz.prog 66 #[.agg #[v, .bool dn, .int .i64 fu], .string nm, .string to] w (DoIs w (swpO fs dn fu nm to).fs (swpO fs dn fu nm to).dn (swpO fs dn fu nm to).fu (swpO fs dn fu nm to).r) := by
  by_cases hr0 : rdN fs dn = 0
  · obtain ⟨h0, rfl⟩ := rd_chk fs dn hr0
    by_cases hn : idxN fs nm < fs.length
    · by_cases hz : fs[idxN fs nm].sy < (fs[idxN fs nm].da.size : Int)
      · exact swpr_wet v fs fu nm to hlo hhi h40 h0 hn hz w hv
      · cases hm : nmOk to with
        | false => exact swpr_name v fs fu nm to hlo hhi h40 h0 hn hz hm w hv
        | true =>
          by_cases hf0 : fu = 0
          · subst hf0; exact swpr_fus v fs nm to h40 h0 hn hz hm w hv
          · exact swpr_run v fs fu nm to hlo hhi h40 h0 hn hz hm hf0 w hv
    · exact swpr_none v fs fu nm to hlo hhi h40 h0 hn w hv
  · exact swpr_bad v fs dn fu nm to hlo hhi h40 hr0 w hv
theorem outO_fine2 {fs : List Fl} {dn : Bool} {fu : Int} {r : Nat} {ch : List Fl} {ad : Bool} (hf : Fine fs) (hl : fs.length ≤ 4611686018427387904) (hc : chkN fs = 0 → r = 0 → Fine ch ∧ ch.length ≤ 4611686018427387904) :
    Fine (outO fs dn fu r ch ad).fs ∧ (outO fs dn fu r ch ad).fs.length ≤ 4611686018427387904 := by
  unfold outO
  by_cases h0 : chkN fs = 0
  · rw [if_pos h0]
    cases dn with
    | true => exact ⟨hf, hl⟩
    | false =>
      rw [if_neg (by simp)]
      by_cases hr : r = 0
      · rw [if_pos hr]
        by_cases hfu : fu = 0
        · rw [if_pos hfu]
          cases ad
          · exact ⟨hf, hl⟩
          · exact hc h0 hr
        · rw [if_neg hfu]; exact hc h0 hr
      · rw [if_neg hr]; exact ⟨hf, hl⟩
  · rw [if_neg h0]; exact ⟨fun f hf => by simp at hf, by simp⟩
theorem put_both2 {fs : List Fl} (hf : Fine fs) (h0 : chkN fs = 0) (f : Fl) (h1 : f.da.size ≤ maxLen ∧ -9223372036854775808 ≤ f.sy ∧ f.sy ≤ 9223372036854775807) : Fine (putF fs f) ∧ (putF fs f).length ≤ 4611686018427387904 := by
  obtain ⟨h4, hok⟩ := chk_fine fs h0
  refine ⟨put_fine hf hok f h1, ?_⟩
  rw [put_len _ hok]; split <;> omega
theorem swpO_fine {fs : List Fl} {dn : Bool} {fu : Int} {nm to : ByteArray} (hf : Fine fs) (hl : fs.length ≤ 4611686018427387904) : Fine (swpO fs dn fu nm to).fs ∧ (swpO fs dn fu nm to).fs.length ≤ 4611686018427387904 := by
  refine outO_fine2 hf hl (fun h0 hr => ?_)
  obtain ⟨h4, hok⟩ := chk_fine fs h0
  have hn := rw_zero hr
  have hsw : swpF fs nm to = ⟨to, fs[idxN fs nm].da, fs[idxN fs nm].sy⟩ := by unfold swpF; rw [look_at fs nm hn]
  have hok2 := del_ok hok (idxN fs nm)
  have hel : (fs.eraseIdx (idxN fs nm)).length = fs.length - 1 := List.length_eraseIdx_of_lt hn
  rw [hsw]
  refine ⟨put_fine (fun x hx => hf x (List.mem_of_mem_eraseIdx hx)) hok2 _ (hf fs[idxN fs nm] (List.getElem_mem hn)), ?_⟩
  rw [put_len _ hok2]; split <;> omega
theorem drpO_fine {fs : List Fl} {dn : Bool} {fu : Int} {nm : ByteArray} (hf : Fine fs) (hl : fs.length ≤ 4611686018427387904) : Fine (drpO fs dn fu nm).fs ∧ (drpO fs dn fu nm).fs.length ≤ 4611686018427387904 :=
  outO_fine2 hf hl (fun _ _ => ⟨fun x hx => hf x (List.mem_of_mem_eraseIdx hx), Nat.le_trans (List.length_eraseIdx_le _ _) hl⟩)
end Dk
end Go.Proofs.YtgahilemlnoabaaGreat
