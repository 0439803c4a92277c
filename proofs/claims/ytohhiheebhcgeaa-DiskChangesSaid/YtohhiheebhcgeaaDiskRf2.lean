/-
  The document's without and with.
-/
import Derived.Test.YtohhiheebhcgeaaDiskRf1
namespace Go.Proofs.Ytohhiheebhcgeaa
open Go.RowKit Go.Lib Go.Sort
namespace Dk
def woT (fs : List Fl) (nm : ByteArray) (k : Nat) : List Fl := (fs.take k).filter (fun f => !(f.nm.toList == nm.toList))
theorem woT_next (fs : List Fl) (nm : ByteArray) (k : Nat) (h : k < fs.length) : woT fs nm (k + 1) = woT fs nm k ++ (if (fs[k].nm.toList == nm.toList) = true then [] else [fs[k]]) := by
  unfold woT
  rw [List.take_add_one, List.getElem?_eq_getElem h, List.filter_append]
  cases hp : (fs[k].nm.toList == nm.toList) <;> simp [hp]
theorem woT_len (fs : List Fl) (nm : ByteArray) (k : Nat) : (woT fs nm k).length ≤ k := Nat.le_trans (List.length_filter_le _ _) (by rw [List.length_take]; omega)

set_option maxRecDepth 100000 in
set_option maxHeartbeats 4000000 in
theorem without_ref (v : Value) (dn : Bool) (fu : Int) (fs : List Fl) (nm : ByteArray) (w : World) (hv : Files w w.heap.size v fs) (h4 : fs.length ≤ 4096) :
    Calls Try.prog 39 #[.agg #[v, .bool dn, .int .i64 fu], .string nm] w (CopyIs w (woT fs nm fs.length) dn fu) := by
  obtain ⟨a, c, rfl, hl, hfi, hc⟩ := hv
  have HC := Lib.hid hc
  have HW := Lib.hid (boxes2' w (.slice a fs.length c) (.slice none 0 0) dn false fu 0)
  obtain ⟨i0, hi, hz0, hz1, hz2⟩ := info_parts info_file
  clear hc hfi
  unfold CopyIs
  go_enter Try.func39, Try.ntmps39
  go_wp2
  go_loopg [11, 5] fs.length (fun g i r wx => ∃ k : Nat, k + g = fs.length ∧ i = .int .i64 (k : Nat) ∧ Aside (Own wx (w.heap.size + 2) r (woT fs nm k)) ∧ Below (w.heap.size + 2) ((w.alloc (.cells #[.slice a fs.length c, .bool dn, .int .i64 fu] 24)).alloc (.cells #[.slice none 0 0, .bool false, .int .i64 0] 24)) wx)
  case atStart => exact ⟨0, by omega, rfl, World.ownsRow_nil _ _ _ _, Below.refl _ _⟩
  case round =>
    obtain ⟨k, hkg, rfl, HO', hbx⟩ := hrel
    have HO : Hid _ := HO'
    have HX := Lib.hid hbx
    have HBW := Lib.hid (HW.out.2.2.trans (hbx.mono (by omega)))
    have hsz : w.heap.size + 2 ≤ wr.heap.size := by have := hbx.size; simp at this; omega
    obtain ⟨av, cv, rfl⟩ := HO.out.slice
    cases gk with
    | zero =>
      obtain rfl : k = fs.length := by omega
      obtain ⟨d0, d1, d2, f0, f1, f2⟩ := HW.out.1.keep hbx (by omega)
      obtain ⟨e0, e1, e2, g0, g1, g2⟩ := HW.out.2.1.keep hbx (by omega)
      clear hkg hbx HO'
      go_wp2
      refine bodyPost_one rfl (w.heap.size + 1) (.slice av (woT fs nm fs.length).length cv) dn fu rfl rfl ?_ ?_ ?_ ?_
      case refine_1 => go_simp
      case refine_2 => go_simp
      case refine_3 => go_simp
      case refine_4 =>
        refine ⟨_, rfl, Own.le (base := w.heap.size + 2) ?_ (by omega), ?_⟩
        · repeat (first | exact HO.out | refine Own.sb ?_ (by first | exact (show w.heap.size < w.heap.size + 2 by omega) | exact (show w.heap.size + 1 < w.heap.size + 2 by omega)) _)
        · repeat (first | exact HBW.out | refine bset ?_ (by first | exact (show w.heap.size ≤ w.heap.size by omega) | exact (show w.heap.size ≤ w.heap.size + 1 by omega)) _)
    | succ g =>
      have hlk : k < fs.length := by omega
      have HG := Lib.hid hkg
      have HNX := Lib.hid (woT_next fs nm k hlk)
      have HLN := Lib.hid (woT_len fs nm k)
      obtain ⟨b, off, rfl, hblt, hcc⟩ := HC.out (by omega)
      obtain ⟨c1, c2', c3⟩ := hcc k hlk
      have k1 := (HBW.out.cell hblt).trans c1
      have k2 := (HBW.out.cell hblt).trans c2'
      have k3 := (HBW.out.cell hblt).trans c3
      have hbl : b < wr.heap.size := by omega
      clear hkg hbx hcc c1 c2' c3 HO'
      generalize fs[k] = x at *
      rcases x with ⟨xn, xd, xs⟩
      simp only at k1 k2 k3 HNX
      have t1 : (k : Int) < (fs.length : Int) := by omega
      have HMX := Lib.hid (show (woT fs nm k).length + 1 ≤ maxLen by simp only [maxLen]; have := HLN.out; omega)
      have HBY := Lib.hid (show ((woT fs nm k).length + 1) * 40 ≤ 140737488355328 by have := HLN.out; omega)
      have HOX : Hid (wr.ownsRow (w.heap.size + 2) 46 3 (.slice av (woT fs nm k).length cv) (woT fs nm k).length (flat (woT fs nm k))) := HO.out
      have HAO := Lib.hid ((HOX.out.alloc (.cells #[.string xn, .string xd, .int .i64 xs] 46)).alloc (.cells #[.string xn, .string xd, .int .i64 xs] 46))
      have HNW : Hid (∀ j u, (encF ⟨xn, xd, xs⟩)[j]? = some u → ((wr.alloc (.cells #[.string xn, .string xd, .int .i64 xs] 46)).alloc (.cells #[.string xn, .string xd, .int .i64 xs] 46)).cell? ((⟨wr.heap.size + 1, 0, none⟩ : Addr).add j) = some u) := by
        intro j u hj
        match j, hj with
        | 0, hj =>
          rw [Addr.add_lit, ← hj]; simp [go_sem, encF]
        | 1, hj =>
          rw [Addr.add_lit, ← hj]; simp [go_sem, encF]
        | 2, hj =>
          rw [Addr.add_lit, ← hj]; simp [go_sem, encF]
        | j + 3, hj => simp [encF] at hj
      have HON := Lib.hid (encF_one ⟨xn, xd, xs⟩)
      have HBS := Lib.hid (show w.heap.size + 2 ≤ ((wr.alloc (.cells #[.string xn, .string xd, .int .i64 xs] 46)).alloc (.cells #[.string xn, .string xd, .int .i64 xs] 46)).heap.size by simp; omega)
      cases hq : (xn.toList == nm.toList)
      · rw [hq, if_neg (by simp)] at HNX
        have hq2 : ¬ xn.toList = nm.toList := by simpa using hq
        go_wp2_with (at_builtin; go_loud (refine wpList_append_own _ rfl _ _ 22 rfl (w.heap.size + 2) 46 i0 _ 3 40 Try.underlying22 hi hz0 hz1 hz2 rfl (by omega) _ (woT fs nm k).length (flat (woT fs nm k)) rfl HAO.out ⟨wr.heap.size + 1, 0, none⟩ 1 1 (encF ⟨xn, xd, xs⟩) rfl rfl HNW.out HON.out HMX.out HBY.out HBS.out ?_; intro v' w3 hown hgrow hnil; have hb3 := (((Below.refl (w.heap.size + 2) wr).alloc hsz _).alloc (by simp; omega) _).grown hgrow HBS.out (fun q hq => (HOX.out.lt q hq).1); have ho3 : Own w3 (w.heap.size + 2) v' (woT fs nm (k + 1)) := (by rw [HNX.out]; exact Own.more hown); obtain ⟨av2, cv2, rfl⟩ := ho3.slice; have HO3 := Lib.hid ho3; have HB3 := Lib.hid hb3; clear hown hgrow hnil hb3 ho3))
        go_roundg g
        case measure => omega
        case rel => exact ⟨k + 1, by have := HG.out; omega, by go_num, HO3.out, HX.out.trans HB3.out⟩
      · rw [hq, if_pos rfl, List.append_nil] at HNX
        have hq2 : xn.toList = nm.toList := by simpa using hq
        go_wp2
        go_roundg g
        case measure => omega
        case rel => exact ⟨k + 1, by have := HG.out; omega, by go_num, by show Own _ _ _ _; rw [HNX.out]; exact HOX.out.alloc _, HX.out.alloc hsz _⟩
end Dk
end Go.Proofs.Ytohhiheebhcgeaa
