/-
  The document's Crash of a right disk.
-/
import Derived.Test.YtohhiheebhcgeaaDiskCrashR
import Derived.Test.YtohhiheebhcgeaaDiskInsert
namespace Go.Proofs.Ytohhiheebhcgeaa
open Go.RowKit Go.Lib Go.Sort
namespace Dk

set_option maxRecDepth 100000 in
set_option maxHeartbeats 4000000 in
theorem crashR_ok (v kv : Value) (dn : Bool) (fu : Int) (fs : List Fl) (ks : List Int) (w : World) (hv : Files w w.heap.size v fs) (hkv : Ints w w.heap.size kv ks) (h0 : chkN fs = 0) :
    Calls Try.prog 31 #[.agg #[v, .bool dn, .int .i64 fu], kv] w (DoIs w (crS fs ks fs.length) false (-1) 0) := by
  rw [crS_crM]
  have HV := Lib.hid hv
  obtain ⟨a, c, rfl, hl, hfi, hc⟩ := hv
  obtain ⟨ka, kc, rfl, hkl, hkr, hkc⟩ := hkv
  obtain ⟨h4, hok⟩ := chk_fine fs h0
  have HKC := Lib.hid hkc
  have HKR := Lib.hid hkr
  have HC := Lib.hid hc
  have HFI := Lib.hid hfi
  have HOK := Lib.hid (sy_fine fs hok)
  have H4 := Lib.hid h4
  obtain ⟨i0, hi, hz0, hz1, hz2⟩ := info_parts info_file
  have h1 := check_ref _ dn fu fs _ ((HV.out.al (.cells #[.slice a fs.length c, .bool dn, .int .i64 fu] 24)).al (.cells #[.slice none 0 0, .bool false, .int .i64 0] 24))
  rw [h0] at h1
  have HW : Hid (Below w.heap.size w ((w.alloc (.cells #[.slice a fs.length c, .bool dn, .int .i64 fu] 24)).alloc (.cells #[.slice none 0 0, .bool false, .int .i64 0] 24))) := ((Below.refl _ _).alloc (Nat.le_refl _) _).alloc (by simp) _
  have HDX : Hid (Dx (w.heap.size + 1) ((w.alloc (.cells #[.slice a fs.length c, .bool dn, .int .i64 fu] 24)).alloc (.cells #[.slice none 0 0, .bool false, .int .i64 0] 24)) (.slice none 0 0) false 0) := by constructor <;> simp [go_sem]
  have HDB : Hid (Dx w.heap.size ((w.alloc (.cells #[.slice a fs.length c, .bool dn, .int .i64 fu] 24)).alloc (.cells #[.slice none 0 0, .bool false, .int .i64 0] 24)) (.slice a fs.length c) dn fu) := by constructor <;> simp [go_sem]
  clear hkr hkc hok h0 h4 hc hfi
  unfold DoIs
  go_enter Try.func31, Try.ntmps31
  go_wp2_with (go_at_call 29; go_loud (refine h1.mono ?_; rintro e w1 ⟨rfl, hb⟩; simp only [World.size_alloc] at hb; obtain ⟨d0, -, -, -, -, -⟩ := HDB.out.keep hb (by omega); have HDR := Lib.hid (HDX.out.keep hb (by omega)); have HB1 := Lib.hid (HW.out.trans (hb.mono (by omega))); have HS1 := Lib.hid (show w.heap.size + 2 ≤ w1.heap.size by have := hb.size; simp at this; omega); have hlt0 : w.heap.size < w1.heap.size := (by have := HS1.out; omega); clear hb))
  go_loopg [18] fs.length (fun g i wx => ∃ k v, k + g = fs.length ∧ i = .int .i64 (k : Nat) ∧ Aside (Dx w1.heap.size wx v false (-1)) ∧ Aside (Own wx (w1.heap.size + 1) v (crM fs ks k)) ∧ Below w1.heap.size w1 wx)
  case atStart =>
    refine ⟨0, .slice none 0 0, by omega, rfl, ?_, World.ownsRow_nil _ _ _ _, (Below.refl _ _).alloc (Nat.le_refl _) _⟩
    exact Dx.made _ _ _ _
  case round =>
    obtain ⟨k, v, hkg, rfl, HD', HO', hbx⟩ := hrel
    have HD : Hid _ := HD'
    have HO : Hid _ := HO'
    have HX := Lib.hid hbx
    have HS2 := Lib.hid (show w1.heap.size < wr.heap.size from World.block_lt_of_cell? wr ⟨w1.heap.size, 0, none⟩ HD.out.d0)
    have HBW := Lib.hid (HB1.out.trans (hbx.mono (by have := HS1.out; omega)))
    cases gk with
    | zero =>
      obtain rfl : k = fs.length := by omega
      have HDQ := Lib.hid (HDR.out.keep hbx (by have := HS1.out; omega))
      obtain ⟨r0, r1, r2, r3, r4, r5⟩ := HDQ.out
      obtain ⟨e0, e1, e2, -, -, -⟩ := HD.out
      obtain ⟨av, cv, hve⟩ := HO.out.slice
      rw [hve] at e0
      clear hkg hbx HD' HO'
      go_wp2
      refine bodyPost_disk rfl (w.heap.size + 1) (.slice av (crM fs ks fs.length).length cv) false (-1) rfl rfl ?_ ?_ ?_ ?_
      case refine_1 => go_simp
      case refine_2 => go_simp
      case refine_3 => go_simp
      case refine_4 =>
        have hk := HS1.out
        refine ⟨_, rfl, Own.le (base := w1.heap.size + 1) ?_ (by omega), ?_⟩
        · rw [← hve]
          repeat (first | exact HO.out | refine Own.sb ?_ (show w.heap.size + 1 < w1.heap.size + 1 by omega) _)
        · repeat (first | exact HBW.out | refine bset ?_ (show w.heap.size ≤ w.heap.size + 1 by omega) _)
    | succ g =>
      have hlk : k < fs.length := by omega
      have HG := Lib.hid hkg
      have HNX := Lib.hid (crM_next fs ks k hlk)
      have HLN := Lib.hid (crM_len fs ks k)
      obtain ⟨hz0', hz1'⟩ := HOK.out k hlk
      obtain ⟨hy, -⟩ := HFI.out _ (List.getElem_mem hlk)
      obtain ⟨b, off, rfl, hblt, hcc⟩ := HC.out (by omega)
      obtain ⟨c1, c2', c3⟩ := hcc k hlk
      have k1 := (HBW.out.cell hblt).trans c1
      have k2 := (HBW.out.cell hblt).trans c2'
      have k3 := (HBW.out.cell hblt).trans c3
      obtain ⟨e0, e1, e2, f0, f1, f2⟩ := HD.out
      have HKQ : Hid (∀ (hk : k < ks.length), ∃ b off, ka = some ⟨b, off, none⟩ ∧ b < w.heap.size ∧ wr.cell? ⟨b, off + k, none⟩ = some (.int .i64 ks[k])) := by
        intro hk
        obtain ⟨b, off, rfl, hb, hc⟩ := HKC.out (by omega)
        exact ⟨b, off, rfl, hb, (HBW.out.cell hb).trans (hc k hk)⟩
      have hne : b ≠ wr.heap.size := by have := HS2.out; have := HS1.out; omega
      have hlt1 := HS2.out
      clear hkg hbx hcc c1 c2' c3 HD' HO'
      rcases hfk : fs[k] with ⟨nm, y, z⟩
      rw [hfk] at HNX k1 k2 k3
      simp only [hfk] at hz0' hz1' hy
      obtain ⟨s, rfl⟩ : ∃ s : Nat, z = s := ⟨z.toNat, by omega⟩
      have hsy : s ≤ y.size := by omega
      clear hfk
      have t1 : (k : Int) < (fs.length : Int) := by omega
      have t2 : (0 : Int) ≤ (k : Int) := by omega
      have t3 : IntKind.i64.wrap ((y.size : Int) - (s : Int)) = (y.size : Int) - (s : Int) := by rw [IntKind.wrap_i64]; simp only [maxLen] at hy; omega
      have HMX := Lib.hid (show (crM fs ks k).length + 1 ≤ maxLen by rw [HLN.out]; simp only [maxLen]; have := H4.out; omega)
      have HBY := Lib.hid (show ((crM fs ks k).length + 1) * 40 ≤ 140737488355328 by rw [HLN.out]; have := H4.out; omega)
      obtain ⟨av, cv, rfl⟩ := HO.out.slice
      have HLT := Lib.hid (show w1.heap.size + 1 ≤ wr.heap.size by omega)
      have HOX : Hid (wr.ownsRow (w1.heap.size + 1) 46 3 (.slice av (crM fs ks k).length cv) (crM fs ks k).length (flat (crM fs ks k))) := HO.out
      have hyl : y.size ≤ 9223372036854775807 := by simpa [maxLen] using hy
      by_cases hki : k < ks.length
      · obtain ⟨kb, koff, rfl, hkb, k4⟩ := HKQ.out hki
        obtain ⟨r1, r2⟩ := HKR.out _ (List.getElem_mem hki)
        rw [show ks[k]? = some ks[k] from List.getElem?_eq_getElem hki] at HNX
        generalize ks[k] = x at *
        have t4 : (k : Int) < (ks.length : Int) := by omega
        have t5 : decide ((ks.length : Int) ≤ (k : Int)) = false := by simp; omega
        have t55 : decide (ks.length ≤ k) = false := by simp; omega
        have t56 : ¬ (ks.length ≤ k) := by omega
        have hltk : kb < wr.heap.size := by have := HS1.out; omega
        clear HKQ
        by_cases hx0 : x < 0
        · have HCR : crN ⟨nm, y, s⟩ (some x) = s := by unfold crN; simp only; rw [if_pos (by omega)]; simp
          have t6 : IntKind.i64.wrap ((s : Int)) = (s : Int) := by rw [IntKind.wrap_i64]; omega
          have HAO := Lib.hid ((HOX.out.alloc (.cells #[.string nm, .string (y.extract 0 (s)), .int .i64 ((s : Nat) : Int)] 46)).alloc (.cells #[.string nm, .string (y.extract 0 (s)), .int .i64 ((s : Nat) : Int)] 46))
          have HNW : Hid (∀ j u, (encF ⟨nm, y.extract 0 (s), ((s : Nat) : Int)⟩)[j]? = some u → ((wr.alloc (.cells #[.string nm, .string (y.extract 0 (s)), .int .i64 ((s : Nat) : Int)] 46)).alloc (.cells #[.string nm, .string (y.extract 0 (s)), .int .i64 ((s : Nat) : Int)] 46)).cell? ((⟨wr.heap.size + 1, 0, none⟩ : Addr).add j) = some u) := by
            intro j u hj
            match j, hj with
            | 0, hj =>
              rw [Addr.add_lit]
              rw [← hj]
              simp [go_sem, encF]
            | 1, hj =>
              rw [Addr.add_lit]
              rw [← hj]
              simp [go_sem, encF]
            | 2, hj =>
              rw [Addr.add_lit]
              rw [← hj]
              simp [go_sem, encF]
            | j + 3, hj => simp [encF] at hj
          have HON := Lib.hid (encF_one ⟨nm, y.extract 0 (s), ((s : Nat) : Int)⟩)
          have HBS := Lib.hid (show w1.heap.size + 1 ≤ ((wr.alloc (.cells #[.string nm, .string (y.extract 0 (s)), .int .i64 ((s : Nat) : Int)] 46)).alloc (.cells #[.string nm, .string (y.extract 0 (s)), .int .i64 ((s : Nat) : Int)] 46)).heap.size by simp; omega)
          have HE : Hid (∀ (v' : Value) (w3 : World), w3.ownsRow (w1.heap.size + 1) 46 3 v' ((crM fs ks k).length + 1) (flat (crM fs ks k) ++ encF ⟨nm, y.extract 0 (s), ((s : Nat) : Int)⟩) → Own w3 (w1.heap.size + 1) v' (crM fs ks (k + 1))) := fun v' w3 h => by rw [HNX.out, HCR]; exact Own.more h
          clear HCR
          go_wp2_with (at_builtin; go_loud (refine wpList_append_own _ rfl _ _ 22 rfl (w1.heap.size + 1) 46 i0 _ 3 40 Try.underlying22 hi hz0 hz1 hz2 rfl (by omega) _ (crM fs ks k).length (flat (crM fs ks k)) rfl HAO.out ⟨wr.heap.size + 1, 0, none⟩ 1 1 (encF ⟨nm, y.extract 0 (s), ((s : Nat) : Int)⟩) rfl rfl HNW.out HON.out HMX.out HBY.out HBS.out ?_; intro v' w3 hown hgrow hnil; have hb3 := (((Below.refl (w1.heap.size + 1) wr).alloc HLT.out _).alloc (by simp; have := HLT.out; omega) _).grown hgrow HBS.out (fun q hq => (HOX.out.lt q hq).1); obtain ⟨av2, cv2, rfl⟩ := (HE.out _ _ hown).slice; have HO3 := Lib.hid (HE.out _ _ hown); have HD3 := Lib.hid (HD.out.keep hb3 (by omega)); have HB3 := Lib.hid hb3; obtain ⟨e0, e1, e2, f0, f1, f2⟩ := HD3.out; clear hown hgrow hnil hb3))
          go_roundg g
          case measure => omega
          case rel => exact ⟨k + 1, _, by have := HG.out; omega, by go_num, HD3.out.set0, HO3.out.sb (show w1.heap.size < w1.heap.size + 1 by omega) _, bset (HX.out.trans (HB3.out.mono (by omega))) (Nat.le_refl _) _⟩
        · obtain ⟨p, rfl⟩ : ∃ p : Nat, x = p := ⟨x.toNat, by omega⟩
          have t6 : decide ((p : Int) < 0) = false := by simp
          by_cases hp : (p : Int) < (y.size : Int) - (s : Int)
          · have HCR : crN ⟨nm, y, s⟩ (some (p : Int)) = s + p := by
              unfold crN
              simp only
              by_cases hp0 : (p : Int) ≤ 0
              · rw [if_pos hp0]; simp; omega
              · rw [if_neg hp0, if_pos hp]; omega
            have t7 : IntKind.i64.wrap ((s : Int) + (p : Int)) = ((s + p : Nat) : Int) := by rw [IntKind.wrap_i64]; omega
            have t8 : ((s + p : Nat) : Int) ≤ (y.size : Int) := by omega
            have t9 : s + p ≤ y.size := by omega
            have HAO := Lib.hid ((HOX.out.alloc (.cells #[.string nm, .string (y.extract 0 (s + p)), .int .i64 ((s + p : Nat) : Int)] 46)).alloc (.cells #[.string nm, .string (y.extract 0 (s + p)), .int .i64 ((s + p : Nat) : Int)] 46))
            have HNW : Hid (∀ j u, (encF ⟨nm, y.extract 0 (s + p), ((s + p : Nat) : Int)⟩)[j]? = some u → ((wr.alloc (.cells #[.string nm, .string (y.extract 0 (s + p)), .int .i64 ((s + p : Nat) : Int)] 46)).alloc (.cells #[.string nm, .string (y.extract 0 (s + p)), .int .i64 ((s + p : Nat) : Int)] 46)).cell? ((⟨wr.heap.size + 1, 0, none⟩ : Addr).add j) = some u) := by
              intro j u hj
              match j, hj with
              | 0, hj =>
                rw [Addr.add_lit]
                rw [← hj]
                simp [go_sem, encF]
              | 1, hj =>
                rw [Addr.add_lit]
                rw [← hj]
                simp [go_sem, encF]
              | 2, hj =>
                rw [Addr.add_lit]
                rw [← hj]
                simp [go_sem, encF]
              | j + 3, hj => simp [encF] at hj
            have HON := Lib.hid (encF_one ⟨nm, y.extract 0 (s + p), ((s + p : Nat) : Int)⟩)
            have HBS := Lib.hid (show w1.heap.size + 1 ≤ ((wr.alloc (.cells #[.string nm, .string (y.extract 0 (s + p)), .int .i64 ((s + p : Nat) : Int)] 46)).alloc (.cells #[.string nm, .string (y.extract 0 (s + p)), .int .i64 ((s + p : Nat) : Int)] 46)).heap.size by simp; omega)
            have HE : Hid (∀ (v' : Value) (w3 : World), w3.ownsRow (w1.heap.size + 1) 46 3 v' ((crM fs ks k).length + 1) (flat (crM fs ks k) ++ encF ⟨nm, y.extract 0 (s + p), ((s + p : Nat) : Int)⟩) → Own w3 (w1.heap.size + 1) v' (crM fs ks (k + 1))) := fun v' w3 h => by rw [HNX.out, HCR]; exact Own.more h
            clear HCR
            go_wp2_with (at_builtin; go_loud (refine wpList_append_own _ rfl _ _ 22 rfl (w1.heap.size + 1) 46 i0 _ 3 40 Try.underlying22 hi hz0 hz1 hz2 rfl (by omega) _ (crM fs ks k).length (flat (crM fs ks k)) rfl HAO.out ⟨wr.heap.size + 1, 0, none⟩ 1 1 (encF ⟨nm, y.extract 0 (s + p), ((s + p : Nat) : Int)⟩) rfl rfl HNW.out HON.out HMX.out HBY.out HBS.out ?_; intro v' w3 hown hgrow hnil; have hb3 := (((Below.refl (w1.heap.size + 1) wr).alloc HLT.out _).alloc (by simp; have := HLT.out; omega) _).grown hgrow HBS.out (fun q hq => (HOX.out.lt q hq).1); obtain ⟨av2, cv2, rfl⟩ := (HE.out _ _ hown).slice; have HO3 := Lib.hid (HE.out _ _ hown); have HD3 := Lib.hid (HD.out.keep hb3 (by omega)); have HB3 := Lib.hid hb3; obtain ⟨e0, e1, e2, f0, f1, f2⟩ := HD3.out; clear hown hgrow hnil hb3))
            go_roundg g
            case measure => omega
            case rel => exact ⟨k + 1, _, by have := HG.out; omega, by go_num, HD3.out.set0, HO3.out.sb (show w1.heap.size < w1.heap.size + 1 by omega) _, bset (HX.out.trans (HB3.out.mono (by omega))) (Nat.le_refl _) _⟩
          · have HCR : crN ⟨nm, y, s⟩ (some (p : Int)) = y.size := by
              unfold crN
              simp only
              by_cases hp0 : (p : Int) ≤ 0
              · rw [if_pos hp0]; simp; omega
              · rw [if_neg hp0, if_neg hp]
            have t7 : decide ((p : Int) < (y.size : Int) - (s : Int)) = false := by simpa using hp
            have t8 : IntKind.i64.wrap ((s : Int) + ((y.size : Int) - (s : Int))) = (y.size : Int) := by rw [IntKind.wrap_i64]; omega
            have HAO := Lib.hid ((HOX.out.alloc (.cells #[.string nm, .string y, .int .i64 ((y.size : Nat) : Int)] 46)).alloc (.cells #[.string nm, .string y, .int .i64 ((y.size : Nat) : Int)] 46))
            have HNW : Hid (∀ j u, (encF ⟨nm, y, ((y.size : Nat) : Int)⟩)[j]? = some u → ((wr.alloc (.cells #[.string nm, .string y, .int .i64 ((y.size : Nat) : Int)] 46)).alloc (.cells #[.string nm, .string y, .int .i64 ((y.size : Nat) : Int)] 46)).cell? ((⟨wr.heap.size + 1, 0, none⟩ : Addr).add j) = some u) := by
              intro j u hj
              match j, hj with
              | 0, hj =>
                rw [Addr.add_lit]
                rw [← hj]
                simp [go_sem, encF]
              | 1, hj =>
                rw [Addr.add_lit]
                rw [← hj]
                simp [go_sem, encF]
              | 2, hj =>
                rw [Addr.add_lit]
                rw [← hj]
                simp [go_sem, encF]
              | j + 3, hj => simp [encF] at hj
            have HON := Lib.hid (encF_one ⟨nm, y, ((y.size : Nat) : Int)⟩)
            have HBS := Lib.hid (show w1.heap.size + 1 ≤ ((wr.alloc (.cells #[.string nm, .string y, .int .i64 ((y.size : Nat) : Int)] 46)).alloc (.cells #[.string nm, .string y, .int .i64 ((y.size : Nat) : Int)] 46)).heap.size by simp; omega)
            have HE : Hid (∀ (v' : Value) (w3 : World), w3.ownsRow (w1.heap.size + 1) 46 3 v' ((crM fs ks k).length + 1) (flat (crM fs ks k) ++ encF ⟨nm, y, ((y.size : Nat) : Int)⟩) → Own w3 (w1.heap.size + 1) v' (crM fs ks (k + 1))) := fun v' w3 h => by rw [HNX.out, HCR]; simp only [crF, ext_all]; exact Own.more h
            clear HCR
            go_wp2_with (at_builtin; go_loud (refine wpList_append_own _ rfl _ _ 22 rfl (w1.heap.size + 1) 46 i0 _ 3 40 Try.underlying22 hi hz0 hz1 hz2 rfl (by omega) _ (crM fs ks k).length (flat (crM fs ks k)) rfl HAO.out ⟨wr.heap.size + 1, 0, none⟩ 1 1 (encF ⟨nm, y, ((y.size : Nat) : Int)⟩) rfl rfl HNW.out HON.out HMX.out HBY.out HBS.out ?_; intro v' w3 hown hgrow hnil; have hb3 := (((Below.refl (w1.heap.size + 1) wr).alloc HLT.out _).alloc (by simp; have := HLT.out; omega) _).grown hgrow HBS.out (fun q hq => (HOX.out.lt q hq).1); obtain ⟨av2, cv2, rfl⟩ := (HE.out _ _ hown).slice; have HO3 := Lib.hid (HE.out _ _ hown); have HD3 := Lib.hid (HD.out.keep hb3 (by omega)); have HB3 := Lib.hid hb3; obtain ⟨e0, e1, e2, f0, f1, f2⟩ := HD3.out; clear hown hgrow hnil hb3))
            go_roundg g
            case measure => omega
            case rel => exact ⟨k + 1, _, by have := HG.out; omega, by go_num, HD3.out.set0, HO3.out.sb (show w1.heap.size < w1.heap.size + 1 by omega) _, bset (HX.out.trans (HB3.out.mono (by omega))) (Nat.le_refl _) _⟩
      · have t5 : (ks.length : Int) ≤ (k : Int) := by omega
        rw [List.getElem?_eq_none (by omega)] at HNX
        have HCR : crN ⟨nm, y, s⟩ none = s := by unfold crN; simp
        have t6 : IntKind.i64.wrap ((s : Int)) = (s : Int) := by rw [IntKind.wrap_i64]; omega
        have HAO := Lib.hid ((HOX.out.alloc (.cells #[.string nm, .string (y.extract 0 (s)), .int .i64 ((s : Nat) : Int)] 46)).alloc (.cells #[.string nm, .string (y.extract 0 (s)), .int .i64 ((s : Nat) : Int)] 46))
        have HNW : Hid (∀ j u, (encF ⟨nm, y.extract 0 (s), ((s : Nat) : Int)⟩)[j]? = some u → ((wr.alloc (.cells #[.string nm, .string (y.extract 0 (s)), .int .i64 ((s : Nat) : Int)] 46)).alloc (.cells #[.string nm, .string (y.extract 0 (s)), .int .i64 ((s : Nat) : Int)] 46)).cell? ((⟨wr.heap.size + 1, 0, none⟩ : Addr).add j) = some u) := by
          intro j u hj
          match j, hj with
          | 0, hj =>
            rw [Addr.add_lit]
            rw [← hj]
            simp [go_sem, encF]
          | 1, hj =>
            rw [Addr.add_lit]
            rw [← hj]
            simp [go_sem, encF]
          | 2, hj =>
            rw [Addr.add_lit]
            rw [← hj]
            simp [go_sem, encF]
          | j + 3, hj => simp [encF] at hj
        have HON := Lib.hid (encF_one ⟨nm, y.extract 0 (s), ((s : Nat) : Int)⟩)
        have HBS := Lib.hid (show w1.heap.size + 1 ≤ ((wr.alloc (.cells #[.string nm, .string (y.extract 0 (s)), .int .i64 ((s : Nat) : Int)] 46)).alloc (.cells #[.string nm, .string (y.extract 0 (s)), .int .i64 ((s : Nat) : Int)] 46)).heap.size by simp; omega)
        have HE : Hid (∀ (v' : Value) (w3 : World), w3.ownsRow (w1.heap.size + 1) 46 3 v' ((crM fs ks k).length + 1) (flat (crM fs ks k) ++ encF ⟨nm, y.extract 0 (s), ((s : Nat) : Int)⟩) → Own w3 (w1.heap.size + 1) v' (crM fs ks (k + 1))) := fun v' w3 h => by rw [HNX.out, HCR]; exact Own.more h
        clear HCR
        go_wp2_with (at_builtin; go_loud (refine wpList_append_own _ rfl _ _ 22 rfl (w1.heap.size + 1) 46 i0 _ 3 40 Try.underlying22 hi hz0 hz1 hz2 rfl (by omega) _ (crM fs ks k).length (flat (crM fs ks k)) rfl HAO.out ⟨wr.heap.size + 1, 0, none⟩ 1 1 (encF ⟨nm, y.extract 0 (s), ((s : Nat) : Int)⟩) rfl rfl HNW.out HON.out HMX.out HBY.out HBS.out ?_; intro v' w3 hown hgrow hnil; have hb3 := (((Below.refl (w1.heap.size + 1) wr).alloc HLT.out _).alloc (by simp; have := HLT.out; omega) _).grown hgrow HBS.out (fun q hq => (HOX.out.lt q hq).1); obtain ⟨av2, cv2, rfl⟩ := (HE.out _ _ hown).slice; have HO3 := Lib.hid (HE.out _ _ hown); have HD3 := Lib.hid (HD.out.keep hb3 (by omega)); have HB3 := Lib.hid hb3; obtain ⟨e0, e1, e2, f0, f1, f2⟩ := HD3.out; clear hown hgrow hnil hb3))
        go_roundg g
        case measure => omega
        case rel => exact ⟨k + 1, _, by have := HG.out; omega, by go_num, HD3.out.set0, HO3.out.sb (show w1.heap.size < w1.heap.size + 1 by omega) _, bset (HX.out.trans (HB3.out.mono (by omega))) (Nat.le_refl _) _⟩
end Dk
end Go.Proofs.Ytohhiheebhcgeaa
