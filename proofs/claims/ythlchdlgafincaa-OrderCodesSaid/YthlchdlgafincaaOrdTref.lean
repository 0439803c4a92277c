/-
  WHAT IS TOLD, by the document: written and read; OrderTold.
-/
import Derived.Test.YthlchdlgafincaaOrdBag
namespace Go.Proofs.Ythlchdlgafincaa
open Go.RowKit
namespace Hd
open PM Hc
set_option maxRecDepth 100000 in
set_option maxHeartbeats 4000000 in
theorem told_ref (n : Nat) (s : ByteArray) (w : World) (hn : n ≤ 255) (hs : s.size ≤ 32) :
    Calls Try.prog 42 #[.agg #[.int .i64 (n : Nat), .string s]] w fun e w' => e = .returned (.string (bs (tlB n s))) ∧ Below w.heap.size w w' := by
  have l0 := num_le n (by omega)
  have l1 := txt_le s hs
  have tn : IntKind.u64.wrap ((n : Nat) : Int) = ((n : Nat) : Int) := by rw [IntKind.wrap_u64]; omega
  have G0 : ∀ z, Below w.heap.size w z → Calls Try.prog 48 #[.int .u64 (n : Nat)] z fun e z' => e = .returned (.string (bs (num n))) ∧ Below z.heap.size z z' := fun z hb => PackRefNum.number_ref n z (by omega)
  have s0 : (bs (num n)).size ≤ 9 := by rw [bs_size]; exact l0
  have G1 : ∀ z, Below w.heap.size w z → Calls Try.prog 51 #[.string s] z fun e z' => e = .returned (.string (bs (txt s.data.toList))) ∧ Below z.heap.size z z' := fun z hb => PackText.text_ref s z (by show s.size ≤ 140737488351232; omega)
  have s1 : (bs (txt s.data.toList)).size ≤ 41 := by rw [bs_size]; exact l1
  have eB : tlB n s = (num n) ++ (txt s.data.toList) := by rfl
  rw [eB, ← bs_append]
  generalize bs (num n) = q0 at *
  generalize bs (txt s.data.toList) = q1 at *
  have z1 : q0.size + q1.size ≤ 9223372036854775807 := by omega
  have z1' : ¬ 9223372036854775807 < q0.size + q1.size := by omega
  have y1 : q0.size + q1.size ≤ maxLen := by unfold maxLen; omega
  clear s0 l0 s1 l1 eB
  have L0 : Hid (∀ z, (z.cell? ⟨w.heap.size, 0, none⟩ = some (.int .i64 (n : Nat)) ∧ z.cell? ⟨w.heap.size, 1, none⟩ = some (.string s) ∧ Hid (Below w.heap.size w z ∧ w.heap.size + 1 ≤ z.heap.size)) → ∀ z', Below z.heap.size z z' → (z'.cell? ⟨w.heap.size, 0, none⟩ = some (.int .i64 (n : Nat)) ∧ z'.cell? ⟨w.heap.size, 1, none⟩ = some (.string s) ∧ Hid (Below w.heap.size w z' ∧ w.heap.size + 1 ≤ z'.heap.size))) := by
    intro z h z' hb
    obtain ⟨a0, a1, hS⟩ := h
    have hz := hS.out.2
    have k : ∀ j u, z.cell? ⟨w.heap.size, j, none⟩ = some u → z'.cell? ⟨w.heap.size, j, none⟩ = some u := fun j u hu => (hb.cell (by show w.heap.size < _; omega)).trans hu
    exact ⟨k _ _ a0, k _ _ a1, hS.out.1.trans (hb.mono (by omega)), by have := hb.size; omega⟩
  have KB : Hid (∀ z, (z.cell? ⟨w.heap.size, 0, none⟩ = some (.int .i64 (n : Nat)) ∧ z.cell? ⟨w.heap.size, 1, none⟩ = some (.string s) ∧ Hid (Below w.heap.size w z ∧ w.heap.size + 1 ≤ z.heap.size)) → Below w.heap.size w z) := fun z h => h.2.2.out.1
  have K0 : Hid (∀ z, (z.cell? ⟨w.heap.size, 0, none⟩ = some (.int .i64 (n : Nat)) ∧ z.cell? ⟨w.heap.size, 1, none⟩ = some (.string s) ∧ Hid (Below w.heap.size w z ∧ w.heap.size + 1 ≤ z.heap.size)) → Calls Try.prog 48 #[.int .u64 (n : Nat)] z fun e z' => e = .returned (.string q0) ∧ (z'.cell? ⟨w.heap.size, 0, none⟩ = some (.int .i64 (n : Nat)) ∧ z'.cell? ⟨w.heap.size, 1, none⟩ = some (.string s) ∧ Hid (Below w.heap.size w z' ∧ w.heap.size + 1 ≤ z'.heap.size))) := fun z h => (G0 z h.2.2.out.1).mono fun e z' ⟨he, hb⟩ => ⟨he, L0.out z h z' hb⟩
  have K1 : Hid (∀ z, (z.cell? ⟨w.heap.size, 0, none⟩ = some (.int .i64 (n : Nat)) ∧ z.cell? ⟨w.heap.size, 1, none⟩ = some (.string s) ∧ Hid (Below w.heap.size w z ∧ w.heap.size + 1 ≤ z.heap.size)) → Calls Try.prog 51 #[.string s] z fun e z' => e = .returned (.string q1) ∧ (z'.cell? ⟨w.heap.size, 0, none⟩ = some (.int .i64 (n : Nat)) ∧ z'.cell? ⟨w.heap.size, 1, none⟩ = some (.string s) ∧ Hid (Below w.heap.size w z' ∧ w.heap.size + 1 ≤ z'.heap.size))) := fun z h => (G1 z h.2.2.out.1).mono fun e z' ⟨he, hb⟩ => ⟨he, L0.out z h z' hb⟩
  have KD : Hid (((w.alloc (.cells #[.int .i64 (n : Nat), .string s] 44)).drew).cell? ⟨w.heap.size, 0, none⟩ = some (.int .i64 (n : Nat)) ∧ ((w.alloc (.cells #[.int .i64 (n : Nat), .string s] 44)).drew).cell? ⟨w.heap.size, 1, none⟩ = some (.string s) ∧ Hid (Below w.heap.size w ((w.alloc (.cells #[.int .i64 (n : Nat), .string s] 44)).drew) ∧ w.heap.size + 1 ≤ ((w.alloc (.cells #[.int .i64 (n : Nat), .string s] 44)).drew).heap.size)) := ⟨by simp [go_sem], by simp [go_sem], ((Below.refl _ _).alloc (Nat.le_refl _) _).drew, by show _ ≤ (w.alloc _).heap.size; simp⟩
  clear G0 G1 L0
  go_enter Try.func42, Try.ntmps42
  go_wp2
  go_region_held3 (fun z => z.cell? ⟨w.heap.size, 0, none⟩ = some (.int .i64 (n : Nat)) ∧ z.cell? ⟨w.heap.size, 1, none⟩ = some (.string s) ∧ Hid (Below w.heap.size w z ∧ w.heap.size + 1 ≤ z.heap.size)) (first | assumption | exact KD.out)
    (first
      | (go_at_call 48; (with_reducible refine (K0.out _ ?_).mono ?_); assumption; rintro e w7 ⟨rfl, hS⟩)
      | (go_at_call 51; (with_reducible refine (K1.out _ ?_).mono ?_); assumption; rintro e w7 ⟨rfl, hS⟩))
  all_goals
    go_wp2
    go_ret
    exact ⟨rfl, KB.out _ hS⟩
set_option maxRecDepth 100000 in
set_option maxHeartbeats 1000000 in
theorem tenc_ref (why : Int) (s : ByteArray) (w : World) :
    Calls Try.prog 19 #[.agg #[.int .i64 why, .string s]] w fun e w' => ToldIs why s e ∧ Below w.heap.size w w' := by
  have HB0 : Hid (Below w.heap.size w (w.alloc (.cells #[.int .i64 why, .string s] 44))) := (Below.refl _ _).alloc (Nat.le_refl _) _
  have hno : tdOk why s = false → ToldIs why s (.returned (.tuple #[.string ⟨#[]⟩, .int .i64 4])) := fun h => by unfold ToldIs teS teE; rw [h]; rfl
  have hye : tdOk why s = true → ToldIs why s (.returned (.tuple #[.string (bs (tlB why.toNat s)), .int .i64 0])) := fun h => by unfold ToldIs teS teE; rw [h]; rfl
  by_cases h1 : why < 0
  · have HN := Lib.hid (hno (by unfold tdOk; rw [decide_eq_false (by omega : ¬ 0 ≤ why)]; rfl))
    clear hno hye
    go_enter Try.func19, Try.ntmps19
    go_wp2
    go_ret2
    exact ⟨HN.out, HB0.out⟩
  · obtain ⟨n, rfl⟩ := Int.eq_ofNat_of_zero_le (by omega : 0 ≤ why)
    by_cases h2 : 255 < n
    · have m1 : (255 : Int) < ((n : Nat) : Int) := by omega
      have m2 : ¬ ((n : Nat) : Int) < 0 := by omega
      have HN := Lib.hid (hno (by unfold tdOk; rw [decide_eq_false (by omega : ¬ ((n : Nat) : Int) ≤ 255), Bool.false_and, Bool.and_false]))
      clear hno hye h1 h2
      go_enter Try.func19, Try.ntmps19
      go_wp2
      go_ret2
      exact ⟨HN.out, HB0.out⟩
    · have m1 : decide ((255 : Int) < ((n : Nat) : Int)) = false := decide_eq_false (by omega)
      have m2 : ¬ ((n : Nat) : Int) < 0 := by omega
      by_cases h3 : 32 < s.size
      · have m3 : (32 : Int) < ((s.size : Nat) : Int) := by omega
        have m4 : decide (32 < s.size) = true := decide_eq_true h3
        have HN := Lib.hid (hno (by unfold tdOk; rw [decide_eq_false (by omega : ¬ s.size ≤ 32), Bool.and_false, Bool.and_false]))
        clear hno hye h1 h2 h3
        go_enter Try.func19, Try.ntmps19
        go_wp2
        go_ret2
        exact ⟨HN.out, HB0.out⟩
      · have m3 : decide ((32 : Int) < ((s.size : Nat) : Int)) = false := decide_eq_false (by omega)
        have m4 : decide (32 < s.size) = false := decide_eq_false h3
        have hy := hye (by unfold tdOk; rw [decide_eq_true (by omega : (0 : Int) ≤ ((n : Nat) : Int)), decide_eq_true (by omega : ((n : Nat) : Int) ≤ 255), decide_eq_true (by omega : s.size ≤ 32)]; rfl)
        rw [toNat_cast] at hy
        have HY := Lib.hid hy
        have KT := Lib.hid (fun z => told_ref n s z (by omega) (by omega))
        clear hno hye h1 h2 h3 hy
        generalize bs (tlB n s) = q at *
        go_enter Try.func19, Try.ntmps19
        go_wp2_with fail
        refine (KT.out _).mono ?_
        rintro e w1 ⟨rfl, hb⟩
        have HB1 := Lib.hid (HB0.out.trans (hb.mono HB0.out.size))
        clear hb
        go_wp2
        go_ret2
        exact ⟨HY.out, HB1.out⟩
theorem tt_bad (l : List UInt8) (h : tnW l ≠ 0) : ttW (tnR l) ≠ 0 := by
  have : tnR l = [] := by unfold tnR; rw [if_neg h]
  rw [this, show ttW ([] : List UInt8) = 3 by simp [ttW, tnW]]
  omega
/-- The document reads something told just as the program. -/
theorem tu_ref (l : List UInt8) : tuOk l = (!(bgF l false) && (ttR (tnR l)).isEmpty) ∧ (tuOk l = true → bgX l = false ∧ tdW l = tnN l ∧ tdR l = tnR l) := by
  have key : tuOk l = (!(bgF l false) && (ttR (tnR l)).isEmpty) := by
    unfold tuOk tdN tdW tdR upV upR tdOk bgF bgX
    rw [bs_size]
    by_cases h1 : 255 < tnN l
    · rw [if_pos h1, if_pos h1]
      simp [h1, ttW, tnW]
    · rw [if_neg h1, if_neg h1]
      have e1 : decide (((tnN l : Nat) : Int) ≤ 255) = true := decide_eq_true (by omega)
      have e0 : decide ((0 : Int) ≤ ((tnN l : Nat) : Int)) = true := decide_eq_true (by omega)
      rw [e0, e1]
      by_cases h2 : (ttT (tnR l)).length ≤ 32
      · have h3 : ¬ 32 < (ttT (tnR l)).length := by omega
        by_cases h4 : tnW l = 0
        · simp [h1, h2, h3, h4]
        · have := tt_bad l h4
          simp [h1, h2, h3, h4, this]
      · have h3 : 32 < (ttT (tnR l)).length := by omega
        simp [h1, h2, h3]
  refine ⟨key, fun h => ?_⟩
  rw [key] at h
  have hx : bgX l = false := by
    cases hb : bgX l with
    | false => rfl
    | true => rw [show bgF l false = true by unfold bgF; rw [hb]; rfl] at h; cases h
  have h1 : ¬ 255 < tnN l := by
    intro h1
    unfold bgX at hx
    rw [decide_eq_true h1] at hx
    cases hx
  exact ⟨hx, by unfold tdW upV; rw [if_neg h1], by unfold tdR upR; rw [if_neg h1]⟩
set_option maxRecDepth 100000 in
set_option maxHeartbeats 2000000 in
theorem tdec_ref (l : List UInt8) (w : World) (hl : l.length ≤ maxLen) :
    Calls Try.prog 21 #[.string (bs l)] w fun e w' => TuIs l e ∧ Below w.heap.size w w' := by
  have ha1 : Below w.heap.size w (w.alloc (.cells #[.int .i64 0, .string ⟨#[]⟩] 44)) := (Below.refl _ _).alloc (Nat.le_refl _) _
  have HR1 : Bxn (w.alloc (.cells #[.int .i64 0, .string ⟨#[]⟩] 44)) w.heap.size [.int .i64 0, .string ⟨#[]⟩] := Bxn.made w _ _
  have hk : Tk ((w.alloc (.cells #[.int .i64 0, .string ⟨#[]⟩] 44)).alloc (.cells #[.string (bs l), .bool false] 76)) (w.heap.size + 1) l false := by
    have := Tk.made 76 (w.alloc (.cells #[.int .i64 0, .string ⟨#[]⟩] 44)) l false
    rw [World.size_alloc] at this
    exact this
  have ha2 : Below (w.alloc (.cells #[.int .i64 0, .string ⟨#[]⟩] 44)).heap.size (w.alloc (.cells #[.int .i64 0, .string ⟨#[]⟩] 44)) ((w.alloc (.cells #[.int .i64 0, .string ⟨#[]⟩] 44)).alloc (.cells #[.string (bs l), .bool false] 76)) := (Below.refl _ _).alloc (Nat.le_refl _) _
  have HR2 := Lib.hid (HR1.below ha2)
  have HB2 := Lib.hid (ha1.trans (ha2.mono ha1.size))
  have HK2 := Lib.hid hk
  have KT := Lib.hid (fun g z (hz : Tk z g l false) => bag_told g l false z hz hl)
  obtain ⟨k1, k2⟩ := tu_ref l
  have hno := fun h => TuIs.no (l := l) h
  have hye := fun (h : tuOk l = true) => by have := TuIs.yes (l := l) h; rwa [(k2 h).2.1, (k2 h).2.2] at this
  have hbx := fun (h : tuOk l = true) => (k2 h).1
  have hnoE := fun (h : tuOk l = true) => h
  have hE : ∀ e, BgIs l e → ∃ z q, e = .returned (.agg #[.int .i64 z, .string q]) ∧ (tuOk l = true → z = (tnN l : Nat) ∧ q = bs (ttT (tnR l))) := fun e he => by
    unfold BgIs at he
    cases hb : bgX l with
    | true => rw [hb] at he; exact ⟨0, ⟨#[]⟩, he, fun h => by have := hbx h; rw [hb] at this; cases this⟩
    | false => rw [hb] at he; exact ⟨_, _, he, fun h => ⟨rfl, rfl⟩⟩
  have HE := Lib.hid hE
  clear hl ha1 HR1 hk ha2 k2 hbx hE hnoE
  go_enter Try.func21, Try.ntmps21
  go_wp2_with fail
  refine (KT.out _ _ HK2.out).mono ?_
  rintro e w1 ⟨he, h1, ho1⟩
  obtain ⟨z, q, rfl, hzq⟩ := HE.out e he
  have hx1 := HR2.out.only ho1 (by omega)
  have hb1 := ho1.below (B := w.heap.size) (by simp; omega) (by omega)
  have ha : Below w1.heap.size w1 (w1.alloc (.cells #[.int .i64 z, .string q] 44)) := (Below.refl _ _).alloc (Nat.le_refl _) _
  have HK3 := Lib.hid (h1.below ha h1.lt)
  have HR3 := Lib.hid (hx1.below ha)
  have HB3 := Lib.hid ((HB2.out.trans hb1).trans (ha.mono (Nat.le_trans HB2.out.size hb1.size)))
  have HT3 := Lib.hid (Bx2.made w1 (.int .i64 z) (.string q) 44)
  clear he h1 ho1 hx1 hb1 ha HE
  go_upto_region 3 with fail
  generalize w1.alloc (.cells #[.int .i64 z, .string q] 44) = W at *
  obtain ⟨c0, c1, f0, f1⟩ := HK3.out.cells
  obtain ⟨d0, d1⟩ := HT3.out.cells
  have r0 : W.cell? ⟨w.heap.size, 0, none⟩ = some (.int .i64 0) := HR3.out.cell 0
  have r1 : W.cell? ⟨w.heap.size, 1, none⟩ = some (.string ⟨#[]⟩) := HR3.out.cell 1
  have e0 := HR3.out.fz 0
  have e1 := HR3.out.fz 1
  have hbF : bgF l false = true ∨ bgF l false = false := by cases bgF l false <;> simp
  generalize bgF l false = bf at *
  rcases hbF with rfl | rfl
  · have HN := Lib.hid (hno (k1.trans rfl))
    clear hno hye hzq k1
    go_wp2
    refine bodyPost_bx2 (ty := 44) rfl w.heap.size [.int .i64 0, .string ⟨#[]⟩] _ rfl rfl ?_ Try.underlying44 rfl rfl ?_
    case refine_1 => exact (HR3.out.set 0 _).set 1 _
    case refine_2 => exact ⟨HN.out, (HB3.out.setCell (Nat.le_refl _) _).setCell (Nat.le_refl _) _⟩
  · by_cases hr : ttR (tnR l) = []
    · have htu : tuOk l = true := k1.trans (by rw [hr]; rfl)
      obtain ⟨rfl, rfl⟩ := hzq htu
      have HY := Lib.hid (hye htu)
      rw [hr] at c0
      have e2 : (bs ([] : List UInt8)).toList = [] := (bs_nil _).2 rfl
      clear hno hye hzq k1 hr htu
      generalize bs (ttT (tnR l)) = q at *
      go_wp2
      refine bodyPost_bx2 (ty := 44) rfl w.heap.size [.int .i64 (tnN l : Nat), .string q] _ rfl rfl ?_ Try.underlying44 rfl rfl ?_
      case refine_1 => exact (HR3.out.set 0 _).set 1 _
      case refine_2 => exact ⟨HY.out, (HB3.out.setCell (Nat.le_refl _) _).setCell (Nat.le_refl _) _⟩
    · have HN := Lib.hid (hno (k1.trans (by simp [hr])))
      have m1 : ¬ (bs (ttR (tnR l))).toList = [] := fun h => hr ((bs_nil _).1 h)
      have m2 : (bs (ttR (tnR l))).toList.isEmpty = false := by
        rw [← Bool.not_eq_true, List.isEmpty_iff]
        exact m1
      clear hno hye hzq k1 hr
      generalize bs (ttR (tnR l)) = lr at *
      go_wp2
      refine bodyPost_bx2 (ty := 44) rfl w.heap.size [.int .i64 0, .string ⟨#[]⟩] _ rfl rfl ?_ Try.underlying44 rfl rfl ?_
      case refine_1 => exact (HR3.out.set 0 _).set 1 _
      case refine_2 => exact ⟨HN.out, (HB3.out.setCell (Nat.le_refl _) _).setCell (Nat.le_refl _) _⟩
end Hd
end Go.Proofs.Ythlchdlgafincaa
