/-
  Merged: ChgM, SnapLoad, SnapSq, SnapSave, SnapSame, SnapAny, SnapLives.
-/
import Derived.Test.YtjgdmdgiicpemaaDkT
import Derived.Test.YtjgdmdgiicpemaaSnA
/- Merged: HardChg, HardDo. -/
/- THE CHANGES of a rewrite, each a closure; all of them, one by one. -/
namespace Go.Proofs.Ytjgdmdgiicpemaa
open Go.RowKit Go.Lib Go.Sort
namespace Dk
set_option maxHeartbeats 1000000 in
theorem clo2 (v : Value) (dn : Bool) (fu : Int) (fs fs2 : List Fl) (dn2 : Bool) (fu2 : Int) (r : Nat) (nm : ByteArray) (da : ByteArray) (pT : Nat) (pC : Nat)
    (H : ∀ w : World, Files w w.heap.size v fs → Calls Try.prog 9 #[.agg #[v, .bool dn, .int .i64 fu], .string nm, .string da] w (DoIs w fs2 dn2 fu2 r)) (w : World) (hv : Files w w.heap.size v fs) (hT : w.cell? ⟨pT, 0, none⟩ = some (.string nm)) (hC : w.cell? ⟨pC, 0, none⟩ = some (.string da)) :
    Calls Try.prog 34 #[.agg #[v, .bool dn, .int .i64 fu], .pointer (some ⟨pT, 0, none⟩), .pointer (some ⟨pC, 0, none⟩)] w (DoIs w fs2 dn2 fu2 r) := by
  have HV := Lib.hid hv
  have HH := Lib.hid H
  clear H
  obtain ⟨a, c, rfl, -⟩ := hv
  have hlT := World.block_lt_of_cell? w _ hT
  have kT : ∀ o o', ((w.alloc o).alloc o').cell? ⟨pT, 0, none⟩ = some (.string nm) := fun o o' => (World.cell?_alloc_lt _ o' ⟨pT, 0, none⟩ (by show pT < _; simp; simp at hlT; omega)).trans ((World.cell?_alloc_lt w o ⟨pT, 0, none⟩ hlT).trans hT)
  have hlC := World.block_lt_of_cell? w _ hC
  have kC : ∀ o o', ((w.alloc o).alloc o').cell? ⟨pC, 0, none⟩ = some (.string da) := fun o o' => (World.cell?_alloc_lt _ o' ⟨pC, 0, none⟩ (by show pC < _; simp; simp at hlC; omega)).trans ((World.cell?_alloc_lt w o ⟨pC, 0, none⟩ hlC).trans hC)
  have h1 := HH.out ((w.alloc (.cells #[.slice a fs.length c, .bool dn, .int .i64 fu] 27)).alloc (.cells #[.slice none 0 0, .bool false, .int .i64 0] 27)) ((HV.out.al _).al _)
  unfold DoIs at h1
  simp only [World.size_alloc] at h1
  unfold DoIs
  go_enter Try.func34, Try.ntmps34
  go_wp2_with (go_at_call 9; go_loud (refine h1.mono ?_; rintro e w1 ⟨v1, rfl, hown, hb⟩; obtain ⟨a5, c5, rfl⟩ := hown.slice; obtain ⟨⟨d0, d1, d2⟩, d3, d4, d5⟩ := box2 hb; have HB := Lib.hid hb; have HO := Lib.hid hown; clear hb hown))
  refine bodyPost_disk rfl (w.heap.size + 1) (.slice a5 fs2.length c5) dn2 fu2 rfl rfl ?_ ?_ ?_ ?_
  case refine_1 => go_simp
  case refine_2 => go_simp
  case refine_3 => go_simp
  case refine_4 =>
    refine ⟨_, rfl, Own.le (base := w.heap.size + 1 + 1) ?_ (by omega), ?_⟩
    · repeat (first | exact HO.out | refine Own.sb ?_ (show w.heap.size + 1 < w.heap.size + 1 + 1 by omega) _)
    · repeat (first | exact (((Below.refl _ _).alloc (Nat.le_refl _) _).alloc (by simp) _).trans (HB.out.mono (by omega)) | refine bset ?_ (show w.heap.size ≤ w.heap.size + 1 by omega) _)
set_option maxHeartbeats 1000000 in
theorem clo3 (v : Value) (dn : Bool) (fu : Int) (fs fs2 : List Fl) (dn2 : Bool) (fu2 : Int) (r : Nat) (nm : ByteArray) (pT : Nat)
    (H : ∀ w : World, Files w w.heap.size v fs → Calls Try.prog 36 #[.agg #[v, .bool dn, .int .i64 fu], .string nm] w (DoIs w fs2 dn2 fu2 r)) (w : World) (hv : Files w w.heap.size v fs) (hT : w.cell? ⟨pT, 0, none⟩ = some (.string nm)) :
    Calls Try.prog 35 #[.agg #[v, .bool dn, .int .i64 fu], .pointer (some ⟨pT, 0, none⟩)] w (DoIs w fs2 dn2 fu2 r) := by
  have HV := Lib.hid hv
  have HH := Lib.hid H
  clear H
  obtain ⟨a, c, rfl, -⟩ := hv
  have hlT := World.block_lt_of_cell? w _ hT
  have kT : ∀ o o', ((w.alloc o).alloc o').cell? ⟨pT, 0, none⟩ = some (.string nm) := fun o o' => (World.cell?_alloc_lt _ o' ⟨pT, 0, none⟩ (by show pT < _; simp; simp at hlT; omega)).trans ((World.cell?_alloc_lt w o ⟨pT, 0, none⟩ hlT).trans hT)
  have h1 := HH.out ((w.alloc (.cells #[.slice a fs.length c, .bool dn, .int .i64 fu] 27)).alloc (.cells #[.slice none 0 0, .bool false, .int .i64 0] 27)) ((HV.out.al _).al _)
  unfold DoIs at h1
  simp only [World.size_alloc] at h1
  unfold DoIs
  go_enter Try.func35, Try.ntmps35
  go_wp2_with (go_at_call 36; go_loud (refine h1.mono ?_; rintro e w1 ⟨v1, rfl, hown, hb⟩; obtain ⟨a5, c5, rfl⟩ := hown.slice; obtain ⟨⟨d0, d1, d2⟩, d3, d4, d5⟩ := box2 hb; have HB := Lib.hid hb; have HO := Lib.hid hown; clear hb hown))
  refine bodyPost_disk rfl (w.heap.size + 1) (.slice a5 fs2.length c5) dn2 fu2 rfl rfl ?_ ?_ ?_ ?_
  case refine_1 => go_simp
  case refine_2 => go_simp
  case refine_3 => go_simp
  case refine_4 =>
    refine ⟨_, rfl, Own.le (base := w.heap.size + 1 + 1) ?_ (by omega), ?_⟩
    · repeat (first | exact HO.out | refine Own.sb ?_ (show w.heap.size + 1 < w.heap.size + 1 + 1 by omega) _)
    · repeat (first | exact (((Below.refl _ _).alloc (Nat.le_refl _) _).alloc (by simp) _).trans (HB.out.mono (by omega)) | refine bset ?_ (show w.heap.size ≤ w.heap.size + 1 by omega) _)
set_option maxHeartbeats 1000000 in
theorem clo4 (v : Value) (dn : Bool) (fu : Int) (fs fs2 : List Fl) (dn2 : Bool) (fu2 : Int) (r : Nat) (nm : ByteArray) (ot : ByteArray) (pT : Nat) (pF : Nat)
    (H : ∀ w : World, Files w w.heap.size v fs → Calls Try.prog 38 #[.agg #[v, .bool dn, .int .i64 fu], .string nm, .string ot] w (DoIs w fs2 dn2 fu2 r)) (w : World) (hv : Files w w.heap.size v fs) (hT : w.cell? ⟨pT, 0, none⟩ = some (.string nm)) (hF : w.cell? ⟨pF, 0, none⟩ = some (.string ot)) :
    Calls Try.prog 37 #[.agg #[v, .bool dn, .int .i64 fu], .pointer (some ⟨pT, 0, none⟩), .pointer (some ⟨pF, 0, none⟩)] w (DoIs w fs2 dn2 fu2 r) := by
  have HV := Lib.hid hv
  have HH := Lib.hid H
  clear H
  obtain ⟨a, c, rfl, -⟩ := hv
  have hlT := World.block_lt_of_cell? w _ hT
  have kT : ∀ o o', ((w.alloc o).alloc o').cell? ⟨pT, 0, none⟩ = some (.string nm) := fun o o' => (World.cell?_alloc_lt _ o' ⟨pT, 0, none⟩ (by show pT < _; simp; simp at hlT; omega)).trans ((World.cell?_alloc_lt w o ⟨pT, 0, none⟩ hlT).trans hT)
  have hlF := World.block_lt_of_cell? w _ hF
  have kF : ∀ o o', ((w.alloc o).alloc o').cell? ⟨pF, 0, none⟩ = some (.string ot) := fun o o' => (World.cell?_alloc_lt _ o' ⟨pF, 0, none⟩ (by show pF < _; simp; simp at hlF; omega)).trans ((World.cell?_alloc_lt w o ⟨pF, 0, none⟩ hlF).trans hF)
  have h1 := HH.out ((w.alloc (.cells #[.slice a fs.length c, .bool dn, .int .i64 fu] 27)).alloc (.cells #[.slice none 0 0, .bool false, .int .i64 0] 27)) ((HV.out.al _).al _)
  unfold DoIs at h1
  simp only [World.size_alloc] at h1
  unfold DoIs
  go_enter Try.func37, Try.ntmps37
  go_wp2_with (go_at_call 38; go_loud (refine h1.mono ?_; rintro e w1 ⟨v1, rfl, hown, hb⟩; obtain ⟨a5, c5, rfl⟩ := hown.slice; obtain ⟨⟨d0, d1, d2⟩, d3, d4, d5⟩ := box2 hb; have HB := Lib.hid hb; have HO := Lib.hid hown; clear hb hown))
  refine bodyPost_disk rfl (w.heap.size + 1) (.slice a5 fs2.length c5) dn2 fu2 rfl rfl ?_ ?_ ?_ ?_
  case refine_1 => go_simp
  case refine_2 => go_simp
  case refine_3 => go_simp
  case refine_4 =>
    refine ⟨_, rfl, Own.le (base := w.heap.size + 1 + 1) ?_ (by omega), ?_⟩
    · repeat (first | exact HO.out | refine Own.sb ?_ (show w.heap.size + 1 < w.heap.size + 1 + 1 by omega) _)
    · repeat (first | exact (((Below.refl _ _).alloc (Nat.le_refl _) _).alloc (by simp) _).trans (HB.out.mono (by omega)) | refine bset ?_ (show w.heap.size ≤ w.heap.size + 1 by omega) _)
/-- The files lie in a block from B on. -/
def Hi (B : Nat) (v : Value) : Prop := ∀ b off n c, v = .slice (some ⟨b, off, none⟩) n c → B ≤ b
theorem Own.hi {w : World} {base : Nat} {v : Value} {fs : List Fl} (h : Own w base v fs) : Hi base v := by
  intro b off n c e
  rcases h.2 with ⟨e3, -⟩ | ⟨g3, cap, cur, e3, hb3, -⟩
  · rw [e] at e3; simp at e3
  · rw [e] at e3
    simp only [Value.slice.injEq, Option.some.injEq, Addr.mk.injEq] at e3
    omega
theorem Hi.le {B C : Nat} {v : Value} (h : Hi C v) (hB : B ≤ C) : Hi B v := fun b off n c e => Nat.le_trans hB (h b off n c e)
/-- What a change comes to, its files in memory. -/
def DoW (w : World) (v : Value) (fs2 : List Fl) (dn : Bool) (fu : Int) (r : Nat) (e : Ending) (w' : World) : Prop :=
  ∃ v', e = .returned (.tuple #[.agg #[v', .bool dn, .int .i64 fu], .int .i64 (r : Nat)]) ∧ Files w' w'.heap.size v' fs2 ∧ (∀ B, B ≤ w.heap.size → Hi B v → Hi B v') ∧ Below w.heap.size w w'
theorem DoIs.w {w w' : World} {v : Value} {fs2 : List Fl} {dn : Bool} {fu : Int} {r : Nat} {e : Ending} (h : DoIs w fs2 dn fu r e w') (hf : Fine fs2) (hl : fs2.length ≤ 4611686018427387904) : DoW w v fs2 dn fu r e w' := by
  obtain ⟨v', rfl, ho, hb⟩ := h
  exact ⟨v', rfl, ho.files hf hl, fun B hB _ => ho.hi.le hB, hb⟩
set_option maxHeartbeats 2000000 in
theorem clo1_none (v : Value) (dn : Bool) (fu : Int) (fs : List Fl) (nm : ByteArray) (pT : Nat) (hr : rdE fs dn nm = 6) (w : World) (hv : Files w w.heap.size v fs) (hT : w.cell? ⟨pT, 0, none⟩ = some (.string nm)) :
    Calls Try.prog 32 #[.agg #[v, .bool dn, .int .i64 fu], .pointer (some ⟨pT, 0, none⟩)] w (DoW w v fs dn fu 0) := by
  have HV := Lib.hid hv
  obtain ⟨a, c, rfl, -⟩ := hv
  have hlT := World.block_lt_of_cell? w _ hT
  have kT : ∀ o o', ((w.alloc o).alloc o').cell? ⟨pT, 0, none⟩ = some (.string nm) := fun o o' => (World.cell?_alloc_lt _ o' ⟨pT, 0, none⟩ (by show pT < _; simp; simp at hlT; omega)).trans ((World.cell?_alloc_lt w o ⟨pT, 0, none⟩ hlT).trans hT)
  have h1 := read_own (.slice a fs.length c) dn fu fs nm ((w.alloc (.cells #[.slice a fs.length c, .bool dn, .int .i64 fu] 27)).alloc (.cells #[.slice none 0 0, .bool false, .int .i64 0] 27)) ((HV.out.al _).al _)
  unfold ReadIs at h1
  rw [hr] at h1
  simp only [World.size_alloc] at h1
  clear hr
  generalize rdS fs dn nm = s at *
  unfold DoW
  go_enter Try.func32, Try.ntmps32
  go_wp2_with (go_at_call 10; go_loud (refine h1.mono ?_; rintro e w1 ⟨rfl, hb⟩; obtain ⟨⟨d0, d1, d2⟩, d3, d4, d5⟩ := box2 hb; have g0 := (hb.cell (p := ⟨w.heap.size, 0, none⟩) (by show w.heap.size < _; omega)); have g1 := (hb.cell (p := ⟨w.heap.size, 1, none⟩) (by show w.heap.size < _; omega)); have g2 := (hb.cell (p := ⟨w.heap.size, 2, none⟩) (by show w.heap.size < _; omega)); have HB := Lib.hid hb; clear hb))
  refine bodyPost_disk rfl (w.heap.size + 1) (.slice a fs.length c) dn fu rfl rfl ?_ ?_ ?_ ?_
  case refine_1 => go_simp
  case refine_2 => go_simp
  case refine_3 => go_simp
  case refine_4 =>
    have HW : Below w.heap.size w w1 := ((((Below.refl _ _).alloc (Nat.le_refl _) _).alloc (by simp) _).trans (HB.out.mono (by omega)))
    have hz := HW.size
    refine ⟨_, rfl, ?_, fun _ _ h => h, bset (bset (bset HW (by show w.heap.size ≤ w.heap.size + 1; omega) _) (by show w.heap.size ≤ w.heap.size + 1; omega) _) (by show w.heap.size ≤ w.heap.size + 1; omega) _⟩
    exact HV.out.on (bset (bset (bset HW (by show w.heap.size ≤ w.heap.size + 1; omega) _) (by show w.heap.size ≤ w.heap.size + 1; omega) _) (by show w.heap.size ≤ w.heap.size + 1; omega) _) (by simp; omega)
set_option maxHeartbeats 2000000 in
theorem clo1_drop (v : Value) (dn : Bool) (fu : Int) (fs fs2 : List Fl) (dn2 : Bool) (fu2 : Int) (r : Nat) (nm : ByteArray) (pT : Nat) (hr : rdE fs dn nm ≠ 6)
    (H : ∀ w : World, Files w w.heap.size v fs → Calls Try.prog 33 #[.agg #[v, .bool dn, .int .i64 fu], .string nm] w (DoIs w fs2 dn2 fu2 r)) (w : World) (hv : Files w w.heap.size v fs) (hT : w.cell? ⟨pT, 0, none⟩ = some (.string nm)) :
    Calls Try.prog 32 #[.agg #[v, .bool dn, .int .i64 fu], .pointer (some ⟨pT, 0, none⟩)] w (DoIs w fs2 dn2 fu2 r) := by
  have HV := Lib.hid hv
  have HH := Lib.hid H
  clear H
  obtain ⟨a, c, rfl, -⟩ := hv
  have hlT := World.block_lt_of_cell? w _ hT
  have kT : ∀ o o', ((w.alloc o).alloc o').cell? ⟨pT, 0, none⟩ = some (.string nm) := fun o o' => (World.cell?_alloc_lt _ o' ⟨pT, 0, none⟩ (by show pT < _; simp; simp at hlT; omega)).trans ((World.cell?_alloc_lt w o ⟨pT, 0, none⟩ hlT).trans hT)
  have h1 := read_own (.slice a fs.length c) dn fu fs nm ((w.alloc (.cells #[.slice a fs.length c, .bool dn, .int .i64 fu] 27)).alloc (.cells #[.slice none 0 0, .bool false, .int .i64 0] 27)) ((HV.out.al _).al _)
  unfold ReadIs at h1
  simp only [World.size_alloc] at h1
  have hr2 : ¬ ((rdE fs dn nm : Int) = 6) := by omega
  have hr3 : (((rdE fs dn nm : Nat) : Int) == 6) = false := by simp; omega
  clear hr
  generalize rdS fs dn nm = s at *
  generalize rdE fs dn nm = re at *
  unfold DoIs
  go_enter Try.func32, Try.ntmps32
  go_wp2_with fail
  refine h1.mono ?_
  rintro e w1 ⟨rfl, hb⟩
  have g0 := (hb.cell (p := ⟨w.heap.size, 0, none⟩) (by show w.heap.size < _; omega))
  have g1 := (hb.cell (p := ⟨w.heap.size, 1, none⟩) (by show w.heap.size < _; omega))
  have g2 := (hb.cell (p := ⟨w.heap.size, 2, none⟩) (by show w.heap.size < _; omega))
  have gT := (hb.cell (p := ⟨pT, 0, none⟩) (by show pT < _; have h9 : pT < w.heap.size := hlT; omega)).trans (kT _ _)
  have HB := Lib.hid hb
  have HW : Hid (Below w.heap.size w w1) := ((((Below.refl _ _).alloc (Nat.le_refl _) _).alloc (by simp) _).trans (hb.mono (by omega)))
  have hz := hb.size
  simp at hz
  clear hb
  go_wp2_with fail
  refine (HH.out _ (HV.out.on HW.out (by omega))).mono ?_
  rintro e w2 ⟨v2, rfl, hown, hb⟩
  obtain ⟨a5, c5, rfl⟩ := hown.slice
  obtain ⟨⟨d0, d1, d2⟩, d3, d4, d5⟩ := box2 (HB.out.trans (hb.mono (by omega)))
  have HW2 := Lib.hid (HW.out.trans (hb.mono (by omega)))
  have HO := Lib.hid hown
  clear hown hb
  go_wp2
  refine bodyPost_disk rfl (w.heap.size + 1) (.slice a5 fs2.length c5) dn2 fu2 rfl rfl ?_ ?_ ?_ ?_
  case refine_1 => go_simp
  case refine_2 => go_simp
  case refine_3 => go_simp
  case refine_4 =>
    refine ⟨_, rfl, Own.le (base := w1.heap.size) ?_ (by omega), ?_⟩
    · repeat (first | exact HO.out | refine Own.sb ?_ (show w.heap.size + 1 < w1.heap.size by omega) _)
    · repeat (first | exact HW2.out | refine bset ?_ (show w.heap.size ≤ w.heap.size + 1 by omega) _)
end Dk
end Go.Proofs.Ytjgdmdgiicpemaa

/- A REWRITE: changes.Rewrite, changes.Do of its four changes. -/
namespace Go.Proofs.Ytjgdmdgiicpemaa
open Go.RowKit Go.Lib Go.Sort
namespace Dk
/-- Where the four changes lie, and what they hold. -/
def Rw (w : World) (g pF pT pC : Nat) (nf nt da : ByteArray) : Prop :=
  w.cell? ⟨g, 0, none⟩ = some (.func (.func 32) #[] #[.pointer (some ⟨pT, 0, none⟩)]) ∧
  w.cell? ⟨g, 1, none⟩ = some (.func (.func 34) #[] #[.pointer (some ⟨pT, 0, none⟩), .pointer (some ⟨pC, 0, none⟩)]) ∧
  w.cell? ⟨g, 2, none⟩ = some (.func (.func 35) #[] #[.pointer (some ⟨pT, 0, none⟩)]) ∧
  w.cell? ⟨g, 3, none⟩ = some (.func (.func 37) #[] #[.pointer (some ⟨pT, 0, none⟩), .pointer (some ⟨pF, 0, none⟩)]) ∧
  w.cell? ⟨pF, 0, none⟩ = some (.string nf) ∧ w.cell? ⟨pT, 0, none⟩ = some (.string nt) ∧ w.cell? ⟨pC, 0, none⟩ = some (.string da)
theorem Rw.below {w w' : World} {g pF pT pC : Nat} {nf nt da : ByteArray} (h : Rw w g pF pT pC nf nt da) (hb : Below w.heap.size w w') : Rw w' g pF pT pC nf nt da := by
  obtain ⟨c0, c1, c2, c3, c4, c5, c6⟩ := h
  have k : ∀ b o u, w.cell? ⟨b, o, none⟩ = some u → w'.cell? ⟨b, o, none⟩ = some u := fun b o u hu => (hb.cell (World.block_lt_of_cell? w _ hu)).trans hu
  exact ⟨k _ _ _ c0, k _ _ _ c1, k _ _ _ c2, k _ _ _ c3, k _ _ _ c4, k _ _ _ c5, k _ _ _ c6⟩
set_option maxHeartbeats 400000 in
theorem rewrite_any (nf nt da : ByteArray) (w : World) :
    Calls Try.prog 18 #[.string nf, .string nt, .string da] w fun e w' => ∃ g pF pT pC, e = .returned (.slice (some ⟨g, 0, none⟩) 4 4) ∧ Rw w' g pF pT pC nf nt da ∧ Below w.heap.size w w' := by
  have hmf : ∀ (fn : Fn) (first cap : Array Value) (w : World), (Instr.makeFunc fn first cap).run Try.prog w = .ok (.func fn first cap) w := fun _ _ _ _ => rfl
  go_enter Try.func18, Try.ntmps18
  go_wp2
  go_ret
  refine ⟨w.heap.size + 1 + 1 + 1, w.heap.size, w.heap.size + 1, w.heap.size + 1 + 1, rfl, ?_, ((((Below.refl _ _).alloc (Nat.le_refl _) _).alloc (by simp) _).alloc (by simp; omega) _).alloc (by simp; omega) _⟩
  refine ⟨?_, ?_, ?_, ?_, ?_, ?_, ?_⟩ <;> simp [go_sem]

def thenO (o : Out) (f : List Fl → Bool → Int → Out) : Out := if o.r = 0 then f o.fs o.dn o.fu else o
def rw1 (nt : ByteArray) (fs : List Fl) (dn : Bool) (fu : Int) : Out := if rdE fs dn nt = 6 then ⟨fs, dn, fu, 0⟩ else drpO fs dn fu nt
def stp (nf nt da : ByteArray) : Nat → List Fl → Bool → Int → Out
  | 0 => fun fs dn fu => rw1 nt fs dn fu
  | 1 => fun fs dn fu => addO fs dn fu nt da
  | 2 => fun fs dn fu => synO fs dn fu nt
  | _ + 3 => fun fs dn fu => swpO fs dn fu nt nf
/-- What the first changes of a rewrite come to. -/
def seqO (nf nt da : ByteArray) (fs : List Fl) (dn : Bool) (fu : Int) : Nat → Out
  | 0 => ⟨fs, dn, fu, 0⟩
  | k + 1 => thenO (seqO nf nt da fs dn fu k) (stp nf nt da k)
theorem thenO_bad {o : Out} {f : List Fl → Bool → Int → Out} (h : o.r ≠ 0) : thenO o f = o := by unfold thenO; rw [if_neg h]
theorem thenO_ok {o : Out} {f : List Fl → Bool → Int → Out} (h : o.r = 0) : thenO o f = f o.fs o.dn o.fu := by unfold thenO; rw [if_pos h]
theorem seq_succ (nf nt da : ByteArray) (fs : List Fl) (dn : Bool) (fu : Int) (k : Nat) : seqO nf nt da fs dn fu (k + 1) = thenO (seqO nf nt da fs dn fu k) (stp nf nt da k) := rfl
theorem seq_stop (nf nt da : ByteArray) (fs : List Fl) (dn : Bool) (fu : Int) (k : Nat) (h : (seqO nf nt da fs dn fu k).r ≠ 0) (j : Nat) : seqO nf nt da fs dn fu (k + j) = seqO nf nt da fs dn fu k := by
  induction j with
  | zero => rfl
  | succ j ih =>
    rw [← Nat.add_assoc, seq_succ, ih]
    exact thenO_bad h
/-- What must hold of a disk, that more can be done to it. -/
structure Inv (m : Nat) (o : Out) : Prop where
  lo : -9223372036854775808 ≤ o.fu
  hi : o.fu ≤ 9223372036854775807
  fine : Fine o.fs
  len : o.fs.length ≤ 4611686018427387904
  room : ∀ f ∈ o.fs, f.da.size + m ≤ 9223372036854775807
/-- Change k of a rewrite, met anywhere. -/
def ChO (nf nt da : ByteArray) (o o2 : Out) (fn : FuncId) (args : Value → Nat → Nat → Nat → Array Value) : Prop :=
  ∀ (x : World) (g pF pT pC : Nat) (v : Value), Files x x.heap.size v o.fs → Rw x g pF pT pC nf nt da →
    Calls Try.prog fn (args (.agg #[v, .bool o.dn, .int .i64 o.fu]) pF pT pC) x (DoW x v o2.fs o2.dn o2.fu o2.r)
theorem ch1 (nf nt da : ByteArray) (o o2 : Out) (e : o2 = rw1 nt o.fs o.dn o.fu) (h0 : Inv da.size o) (h1 : Inv da.size o2) : ChO nf nt da o o2 32 (fun d _ pT _ => #[d, .pointer (some ⟨pT, 0, none⟩)]) := by
  intro x g pF pT pC v hv hrw
  obtain ⟨-, -, -, -, -, cT, -⟩ := hrw
  unfold rw1 at e
  by_cases h6 : rdE o.fs o.dn nt = 6
  · rw [if_pos h6] at e
    subst e
    exact clo1_none v o.dn o.fu o.fs nt pT h6 x hv cT
  · rw [if_neg h6] at e
    have hc := clo1_drop v o.dn o.fu o.fs _ _ _ _ nt pT h6 (fun w hw => drop_all v o.fs o.dn o.fu nt h0.lo h0.hi w hw) x hv cT
    rw [← e] at hc
    exact hc.mono fun e w' h => h.w h1.fine h1.len
theorem ch2 (nf nt da : ByteArray) (o o2 : Out) (e : o2 = addO o.fs o.dn o.fu nt da) (hz : da.size ≤ 9223372036854775807) (h0 : Inv da.size o) (h1 : Inv da.size o2) : ChO nf nt da o o2 34 (fun d _ pT pC => #[d, .pointer (some ⟨pT, 0, none⟩), .pointer (some ⟨pC, 0, none⟩)]) := by
  intro x g pF pT pC v hv hrw
  obtain ⟨-, -, -, -, -, cT, cC⟩ := hrw
  have hc := clo2 v o.dn o.fu o.fs _ _ _ _ nt da pT pC (fun w hw => add_all v o.fs o.dn o.fu nt da h0.lo h0.hi hz h0.room w hw) x hv cT cC
  rw [← e] at hc
  exact hc.mono fun e w' h => h.w h1.fine h1.len
theorem ch3 (nf nt da : ByteArray) (o o2 : Out) (e : o2 = synO o.fs o.dn o.fu nt) (h0 : Inv da.size o) (h1 : Inv da.size o2) : ChO nf nt da o o2 35 (fun d _ pT _ => #[d, .pointer (some ⟨pT, 0, none⟩)]) := by
  intro x g pF pT pC v hv hrw
  obtain ⟨-, -, -, -, -, cT, cC⟩ := hrw
  have hc := clo3 v o.dn o.fu o.fs _ _ _ _ nt pT (fun w hw => sync_all v o.fs o.dn o.fu nt h0.lo h0.hi w hw) x hv cT
  rw [← e] at hc
  exact hc.mono fun e w' h => h.w h1.fine h1.len
theorem ch4 (nf nt da : ByteArray) (o o2 : Out) (e : o2 = swpO o.fs o.dn o.fu nt nf) (h0 : Inv da.size o) (h1 : Inv da.size o2) : ChO nf nt da o o2 37 (fun d pF pT _ => #[d, .pointer (some ⟨pT, 0, none⟩), .pointer (some ⟨pF, 0, none⟩)]) := by
  intro x g pF pT pC v hv hrw
  obtain ⟨-, -, -, -, cF, cT, cC⟩ := hrw
  have hc := clo4 v o.dn o.fu o.fs _ _ _ _ nt nf pT pF (fun w hw => swap_all v o.fs o.dn o.fu nt nf h0.lo h0.hi w hw) x hv cT cF
  rw [← e] at hc
  exact hc.mono fun e w' h => h.w h1.fine h1.len
/-- All four, met anywhere, each behind those that were done. -/
structure All4 (nf nt da : ByteArray) (o : Nat → Out) : Prop where
  c0 : (o 0).r = 0 → ChO nf nt da (o 0) (o 1) 32 (fun d _ pT _ => #[d, .pointer (some ⟨pT, 0, none⟩)])
  c1 : (o 1).r = 0 → ChO nf nt da (o 1) (o 2) 34 (fun d _ pT pC => #[d, .pointer (some ⟨pT, 0, none⟩), .pointer (some ⟨pC, 0, none⟩)])
  c2 : (o 2).r = 0 → ChO nf nt da (o 2) (o 3) 35 (fun d _ pT _ => #[d, .pointer (some ⟨pT, 0, none⟩)])
  c3 : (o 3).r = 0 → ChO nf nt da (o 3) (o 4) 37 (fun d pF pT _ => #[d, .pointer (some ⟨pT, 0, none⟩), .pointer (some ⟨pF, 0, none⟩)])
theorem all4 (nf nt da : ByteArray) (fs : List Fl) (dn : Bool) (fu : Int) (hz : da.size ≤ 9223372036854775807) (hi : ∀ k, k ≤ 4 → Inv da.size (seqO nf nt da fs dn fu k)) : All4 nf nt da (seqO nf nt da fs dn fu) where
  c0 h := ch1 nf nt da _ _ ((seq_succ ..).trans (thenO_ok h)) (hi 0 (by omega)) (hi 1 (by omega))
  c1 h := ch2 nf nt da _ _ ((seq_succ ..).trans (thenO_ok h)) hz (hi 1 (by omega)) (hi 2 (by omega))
  c2 h := ch3 nf nt da _ _ ((seq_succ ..).trans (thenO_ok h)) (hi 2 (by omega)) (hi 3 (by omega))
  c3 h := ch4 nf nt da _ _ ((seq_succ ..).trans (thenO_ok h)) (hi 3 (by omega)) (hi 4 (by omega))
theorem files_slice {w : World} {B : Nat} {v : Value} {fs : List Fl} (h : Files w B v fs) : ∃ a c, v = .slice a fs.length c := by
  obtain ⟨a, c, rfl, -⟩ := h
  exact ⟨a, c, rfl⟩
theorem Dx.on {B : Nat} {w w' : World} {v : Value} {dn : Bool} {fu : Int} (h : Dx B w v dn fu) (hb : Below w.heap.size w w') (hB : B < w.heap.size) : Dx B w' v dn fu := h.keep hb hB
/-- Where Do stands: the disk in its box, the result's box. -/
def Now (w x : World) (v : Value) (o : Out) : Prop :=
  Dx w.heap.size x v o.dn o.fu ∧ Dx (w.heap.size + 1) x (.slice none 0 0) false 0 ∧ Files x x.heap.size v o.fs ∧ Hi (w.heap.size + 2) v ∧ Below w.heap.size w x ∧ w.heap.size + 1 < x.heap.size
theorem Files.st {w : World} {v : Value} {fs : List Fl} (h : Files w w.heap.size v fs) (p : Addr) (u : Value) (hp : ∀ b off c, v = .slice (some ⟨b, off, none⟩) fs.length c → b ≠ p.block) : Files (w.setCell p u) (w.setCell p u).heap.size v fs := by
  obtain ⟨a, c, rfl, h1, h2, h3⟩ := h
  refine ⟨a, c, rfl, h1, h2, fun hp0 => ?_⟩
  obtain ⟨b, off, rfl, hlt, hc⟩ := h3 hp0
  have hne := hp b off c rfl
  have k : ∀ o, (w.setCell p u).cell? ⟨b, o, none⟩ = w.cell? ⟨b, o, none⟩ := fun o => World.cell?_setCell_other _ _ _ _ (by intro e; apply hne; rw [e])
  refine ⟨b, off, rfl, by simpa using hlt, fun i hi => ?_⟩
  rw [k, k, k]
  exact hc i hi
theorem Files.put {w : World} {B p i : Nat} {v u : Value} {fs : List Fl} (h : Files w w.heap.size v fs) (hi : Hi B v) (hp : p < B) : Files (w.setCell ⟨p, i, none⟩ u) (w.setCell ⟨p, i, none⟩ u).heap.size v fs :=
  h.st _ _ (fun b off c e => by have := hi b off _ c e; show b ≠ p; omega)
theorem Files.put3 {w : World} {B p : Nat} {v u0 u1 u2 : Value} {fs : List Fl} (h : Files w w.heap.size v fs) (hi : Hi B v) (hp : p < B) : Files (((w.setCell ⟨p, 0, none⟩ u0).setCell ⟨p, 1, none⟩ u1).setCell ⟨p, 2, none⟩ u2) (((w.setCell ⟨p, 0, none⟩ u0).setCell ⟨p, 1, none⟩ u1).setCell ⟨p, 2, none⟩ u2).heap.size v fs :=
  ((h.put hi hp).put hi hp).put hi hp
theorem below3 {B p : Nat} {a w : World} {u0 u1 u2 : Value} (h : Below B a w) (hp : B ≤ p) : Below B a (((w.setCell ⟨p, 0, none⟩ u0).setCell ⟨p, 1, none⟩ u1).setCell ⟨p, 2, none⟩ u2) := bset (bset (bset h hp _) hp _) hp _
theorem Dx.far {B p i : Nat} {w : World} {v u : Value} {dn : Bool} {fu : Int} (h : Dx B w v dn fu) (hp : B ≠ p) : Dx B (w.setCell ⟨p, i, none⟩ u) v dn fu := by
  have k : ∀ o, (w.setCell ⟨p, i, none⟩ u).cell? ⟨B, o, none⟩ = w.cell? ⟨B, o, none⟩ := fun o => World.cell?_setCell_other _ _ _ _ (by intro e; injection e with e1; exact hp e1.symm)
  obtain ⟨d0, d1, d2, d3, d4, d5⟩ := h
  exact ⟨(k _).trans d0, (k _).trans d1, (k _).trans d2, by simpa using d3, by simpa using d4, by simpa using d5⟩
theorem state_next {w x : World} {v v2 : Value} {dn dn2 : Bool} {fu fu2 : Int} {fs2 : List Fl} {r : Nat} (hd : Dx w.heap.size x v dn fu) (he : Dx (w.heap.size + 1) x (.slice none 0 0) false 0) (hf : Files x x.heap.size v2 fs2) (hh : Hi (w.heap.size + 2) v2) (hb : Below w.heap.size w x) (hz : w.heap.size + 1 < x.heap.size) :
    Now w (((x.setCell ⟨w.heap.size, 0, none⟩ v2).setCell ⟨w.heap.size, 1, none⟩ (.bool dn2)).setCell ⟨w.heap.size, 2, none⟩ (.int .i64 fu2)) v2 ⟨fs2, dn2, fu2, r⟩ := by
  refine ⟨hd.st, ((he.far (by omega)).far (by omega)).far (by omega), hf.put3 hh (by omega), hh, below3 hb (Nat.le_refl _), by simpa using hz⟩
theorem state_end0 {w x : World} {v2 : Value} {dn2 : Bool} {fu2 : Int} {fs2 : List Fl} {r : Nat} (hf : Files x x.heap.size v2 fs2) (hh : Hi (w.heap.size + 2) v2) (hb : Below w.heap.size w x) :
    DoW w (.slice none 0 0) fs2 dn2 fu2 r (.returned (.tuple #[.agg #[v2, .bool dn2, .int .i64 fu2], .int .i64 (r : Nat)])) (((x.setCell ⟨w.heap.size + 1, 0, none⟩ v2).setCell ⟨w.heap.size + 1, 1, none⟩ (.bool dn2)).setCell ⟨w.heap.size + 1, 2, none⟩ (.int .i64 fu2)) :=
  ⟨v2, rfl, hf.put3 hh (by omega), fun B hB _ => hh.le (by omega), below3 hb (by omega)⟩
theorem state_end {w x : World} {v2 : Value} {dn2 : Bool} {fu2 : Int} {fs2 : List Fl} {r : Nat} (hf : Files x x.heap.size v2 fs2) (hh : Hi (w.heap.size + 2) v2) (hb : Below w.heap.size w x) :
    DoW w (.slice none 0 0) fs2 dn2 fu2 r (.returned (.tuple #[.agg #[v2, .bool dn2, .int .i64 fu2], .int .i64 (r : Nat)])) ((((((x.setCell ⟨w.heap.size, 0, none⟩ v2).setCell ⟨w.heap.size, 1, none⟩ (.bool dn2)).setCell ⟨w.heap.size, 2, none⟩ (.int .i64 fu2)).setCell ⟨w.heap.size + 1, 0, none⟩ v2).setCell ⟨w.heap.size + 1, 1, none⟩ (.bool dn2)).setCell ⟨w.heap.size + 1, 2, none⟩ (.int .i64 fu2)) :=
  state_end0 (hf.put3 hh (by omega)) hh (below3 hb (Nat.le_refl _))
set_option maxRecDepth 100000 in
set_option maxHeartbeats 4000000 in
theorem do_rewrite (nf nt da : ByteArray) (o : Nat → Out) (hA : All4 nf nt da o) (h00 : (o 0).r = 0) (hstop : ∀ k, k ≤ 4 → (o k).r ≠ 0 → o 4 = o k) (h4 : (o 0).fs.length ≤ 4096) (hfine : Fine (o 0).fs) (v : Value) (g pF pT pC : Nat) (w : World)
    (hv : Files w w.heap.size v (o 0).fs) (hr : Rw w g pF pT pC nf nt da) :
    Calls Try.prog 17 #[.agg #[v, .bool (o 0).dn, .int .i64 (o 0).fu], .slice (some ⟨g, 0, none⟩) 4 4] w (DoW w (.slice none 0 0) (o 4).fs (o 4).dn (o 4).fu (o 4).r) := by
  have HV := Lib.hid hv
  have HR := Lib.hid hr
  have HA := Lib.hid hA
  have HS := Lib.hid hstop
  have H0 := Lib.hid h00
  have hcl := fun w hw => clone_own v (o 0).fs w hw h4
  have HC := Lib.hid hcl
  obtain ⟨a, c, rfl, -⟩ := hv
  clear hA hstop h00 hr hcl
  unfold DoW
  go_enter Try.func17, Try.ntmps17
  go_wp2_with fail
  refine (HC.out _ ((HV.out.al _).al _)).mono ?_
  rintro e w1 ⟨v1, rfl, hown, hb⟩
  obtain ⟨a1, c1, rfl⟩ := hown.slice
  have HB := Lib.hid hb
  have HO := Lib.hid hown
  have hz := hb.size
  simp at hz
  obtain ⟨⟨x0, x1, x2⟩, x3, x4, x5⟩ := box2 (v := .slice a (o 0).fs.length c) (dn := (o 0).dn) (fu := (o 0).fu) (hb.mono (by simp))
  have k0 : ∀ i, w1.cell? ⟨w.heap.size, i, none⟩ = #[.slice a (o 0).fs.length c, .bool (o 0).dn, .int .i64 (o 0).fu][i]? := fun i => by rw [hb.cell (by simp; omega)]; simp [go_sem]
  have f0 : ∀ i, w1.frozen? ⟨w.heap.size, i, none⟩ = false := fun i => (hb.frozen (by simp; omega)).trans (by simp [go_sem])
  have HD0 : Hid (Dx w.heap.size (w1.setCell ⟨w.heap.size, 0, none⟩ (.slice a1 (o 0).fs.length c1)) (.slice a1 (o 0).fs.length c1) (o 0).dn (o 0).fu) := by
    show Dx _ _ _ _ _
    constructor <;> simp [go_sem, k0, f0]
  have HE0 : Hid (Dx (w.heap.size + 1) (w1.setCell ⟨w.heap.size, 0, none⟩ (.slice a1 (o 0).fs.length c1)) (.slice none 0 0) false 0) := by
    show Dx _ _ _ _ _
    constructor <;> simp [go_sem, x0, x1, x2, x3, x4, x5]
  have HW0 : Hid (Below w.heap.size w (w1.setCell ⟨w.heap.size, 0, none⟩ (.slice a1 (o 0).fs.length c1))) := bset (((((Below.refl _ _).alloc (Nat.le_refl _) _).alloc (by simp) _).trans (hb.mono (by simp; omega)))) (Nat.le_refl _) _
  have HF0 : Hid (Files (w1.setCell ⟨w.heap.size, 0, none⟩ (.slice a1 (o 0).fs.length c1)) (w1.setCell ⟨w.heap.size, 0, none⟩ (.slice a1 (o 0).fs.length c1)).heap.size (.slice a1 (o 0).fs.length c1) (o 0).fs) :=
    Own.files (HO.out.sb (by show w.heap.size < _; simp; omega) _) hfine (by omega)
  clear hb hown x0 x1 x2 x3 x4 x5 hfine h4
  go_wp2
  go_loopg [15] 4 (fun gg i wx => ∃ (k : Nat) (v : Value), k + gg = 4 ∧ i = .int .i64 k ∧ Aside ((o k).r = 0) ∧ Aside (Now w wx v (o k)))
  case atStart => exact ⟨0, _, by omega, rfl, H0.out, ⟨HD0.out, HE0.out, HF0.out, HO.out.hi.le (by simp), HW0.out, by simp; omega⟩⟩
  case round =>
    obtain ⟨k, v, hkg, rfl, HR0, HN⟩ := hrel
    obtain ⟨hd, he, hf, hhi, hbw, hlt1⟩ := HN.out
    have HD := Lib.hid hd
    have HE := Lib.hid he
    have HFL := Lib.hid hf
    have HHI := Lib.hid hhi
    have HRW := Lib.hid (HR.out.below hbw)
    have HBW := Lib.hid hbw
    have hlt0 : w.heap.size < wr.heap.size := by omega
    obtain ⟨av, cv, rfl⟩ := files_slice hf
    obtain ⟨d0, d1, d2, d3, d4, d5⟩ := hd
    obtain ⟨x0, x1, x2, x3, x4, x5⟩ := he
    clear hf hhi hbw HN k0 f0
    cases gk with
    | zero =>
      obtain rfl : k = 4 := by omega
      clear hkg
      have HR4 := HR0
      generalize hq : o 4 = o2 at *
      have HQ4 := Lib.hid hq
      clear hq
      rcases o2 with ⟨fs2, dn2, fu2, r2⟩
      obtain rfl : r2 = 0 := HR4.out
      simp only at *
      go_wp2
      refine bodyPost_disk rfl (w.heap.size + 1) (.slice av fs2.length cv) dn2 fu2 rfl rfl ?_ ?_ ?_ ?_
      case refine_1 => go_simp
      case refine_2 => go_simp
      case refine_3 => go_simp
      case refine_4 => first | exact state_end0 HFL.out HHI.out HBW.out | (rw [HQ4.out]; exact state_end0 HFL.out HHI.out HBW.out)
    | succ gg =>
      have HG := Lib.hid hkg
      have hk : k = 0 ∨ k = 1 ∨ k = 2 ∨ k = 3 := by omega
      clear hkg
      rcases hk with rfl | rfl | rfl | rfl
      · obtain ⟨q0, q1, q2, q3, -⟩ := HRW.out
        have HK := Lib.hid (HA.out.c0 HR0.out wr g pF pT pC (.slice av (o 0).fs.length cv) HFL.out HRW.out)
        clear q1 q2 q3
        generalize hq : o 1 = o2 at *
        have HQ := Lib.hid hq
        clear hq
        go_wp2_with fail
        refine HK.out.mono ?_
        rintro e w2 ⟨v2, rfl, hf2, hh2, hb2⟩
        have HH2 := Lib.hid (hh2 _ (by omega) HHI.out)
        have HF2 := Lib.hid hf2
        obtain ⟨a2, c2, rfl⟩ := files_slice hf2
        have e0 := Dx.on HD.out hb2 hlt0
        have e1 := Dx.on HE.out hb2 hlt1
        obtain ⟨d0, d1, d2, d3, d4, d5⟩ := e0
        obtain ⟨x0, x1, x2, x3, x4, x5⟩ := e1
        have hz2 := hb2.size
        have HB2 := Lib.hid (HBW.out.trans (hb2.mono (by omega)))
        have HD2 := Lib.hid (Dx.on HD.out hb2 hlt0)
        have HE2 := Lib.hid (Dx.on HE.out hb2 hlt1)
        clear hf2 hh2 hb2
        rcases o2 with ⟨fs2, dn2, fu2, r2⟩
        simp only at *
        by_cases hr2 : r2 = 0
        · subst hr2
          go_wp2
          go_roundg gg
          case measure => omega
          case rel => exact ⟨1, .slice a2 fs2.length c2, by have := HG.out; omega, rfl, by show (o 1).r = 0; rw [HQ.out], by
            rw [HQ.out]
            exact state_next HD2.out HE2.out HF2.out HH2.out HB2.out (by omega)⟩
        · have hr3 : ¬ ((r2 : Int) = 0) := by omega
          have hr4 : ((r2 : Int) != 0) = true := by simp; omega
          have HST : Hid (o 4 = ⟨fs2, dn2, fu2, r2⟩) := (HS.out 1 (by omega) (by rw [HQ.out]; exact hr2)).trans HQ.out
          clear hr2
          go_wp2
          refine bodyPost_disk rfl (w.heap.size + 1) (.slice a2 fs2.length c2) dn2 fu2 rfl rfl ?_ ?_ ?_ ?_
          case refine_1 => go_simp
          case refine_2 => go_simp
          case refine_3 => go_simp
          case refine_4 =>
            rw [HST.out]
            exact state_end HF2.out HH2.out HB2.out
      · obtain ⟨q0, q1, q2, q3, -⟩ := HRW.out
        have HK := Lib.hid (HA.out.c1 HR0.out wr g pF pT pC (.slice av (o 1).fs.length cv) HFL.out HRW.out)
        clear q0 q2 q3
        generalize hq : o 2 = o2 at *
        have HQ := Lib.hid hq
        clear hq
        go_wp2_with fail
        refine HK.out.mono ?_
        rintro e w2 ⟨v2, rfl, hf2, hh2, hb2⟩
        have HH2 := Lib.hid (hh2 _ (by omega) HHI.out)
        have HF2 := Lib.hid hf2
        obtain ⟨a2, c2, rfl⟩ := files_slice hf2
        have e0 := Dx.on HD.out hb2 hlt0
        have e1 := Dx.on HE.out hb2 hlt1
        obtain ⟨d0, d1, d2, d3, d4, d5⟩ := e0
        obtain ⟨x0, x1, x2, x3, x4, x5⟩ := e1
        have hz2 := hb2.size
        have HB2 := Lib.hid (HBW.out.trans (hb2.mono (by omega)))
        have HD2 := Lib.hid (Dx.on HD.out hb2 hlt0)
        have HE2 := Lib.hid (Dx.on HE.out hb2 hlt1)
        clear hf2 hh2 hb2
        rcases o2 with ⟨fs2, dn2, fu2, r2⟩
        simp only at *
        by_cases hr2 : r2 = 0
        · subst hr2
          go_wp2
          go_roundg gg
          case measure => omega
          case rel => exact ⟨2, .slice a2 fs2.length c2, by have := HG.out; omega, rfl, by show (o 2).r = 0; rw [HQ.out], by
            rw [HQ.out]
            exact state_next HD2.out HE2.out HF2.out HH2.out HB2.out (by omega)⟩
        · have hr3 : ¬ ((r2 : Int) = 0) := by omega
          have hr4 : ((r2 : Int) != 0) = true := by simp; omega
          have HST : Hid (o 4 = ⟨fs2, dn2, fu2, r2⟩) := (HS.out 2 (by omega) (by rw [HQ.out]; exact hr2)).trans HQ.out
          clear hr2
          go_wp2
          refine bodyPost_disk rfl (w.heap.size + 1) (.slice a2 fs2.length c2) dn2 fu2 rfl rfl ?_ ?_ ?_ ?_
          case refine_1 => go_simp
          case refine_2 => go_simp
          case refine_3 => go_simp
          case refine_4 =>
            rw [HST.out]
            exact state_end HF2.out HH2.out HB2.out
      · obtain ⟨q0, q1, q2, q3, -⟩ := HRW.out
        have HK := Lib.hid (HA.out.c2 HR0.out wr g pF pT pC (.slice av (o 2).fs.length cv) HFL.out HRW.out)
        clear q0 q1 q3
        generalize hq : o 3 = o2 at *
        have HQ := Lib.hid hq
        clear hq
        go_wp2_with fail
        refine HK.out.mono ?_
        rintro e w2 ⟨v2, rfl, hf2, hh2, hb2⟩
        have HH2 := Lib.hid (hh2 _ (by omega) HHI.out)
        have HF2 := Lib.hid hf2
        obtain ⟨a2, c2, rfl⟩ := files_slice hf2
        have e0 := Dx.on HD.out hb2 hlt0
        have e1 := Dx.on HE.out hb2 hlt1
        obtain ⟨d0, d1, d2, d3, d4, d5⟩ := e0
        obtain ⟨x0, x1, x2, x3, x4, x5⟩ := e1
        have hz2 := hb2.size
        have HB2 := Lib.hid (HBW.out.trans (hb2.mono (by omega)))
        have HD2 := Lib.hid (Dx.on HD.out hb2 hlt0)
        have HE2 := Lib.hid (Dx.on HE.out hb2 hlt1)
        clear hf2 hh2 hb2
        rcases o2 with ⟨fs2, dn2, fu2, r2⟩
        simp only at *
        by_cases hr2 : r2 = 0
        · subst hr2
          go_wp2
          go_roundg gg
          case measure => omega
          case rel => exact ⟨3, .slice a2 fs2.length c2, by have := HG.out; omega, rfl, by show (o 3).r = 0; rw [HQ.out], by
            rw [HQ.out]
            exact state_next HD2.out HE2.out HF2.out HH2.out HB2.out (by omega)⟩
        · have hr3 : ¬ ((r2 : Int) = 0) := by omega
          have hr4 : ((r2 : Int) != 0) = true := by simp; omega
          have HST : Hid (o 4 = ⟨fs2, dn2, fu2, r2⟩) := (HS.out 3 (by omega) (by rw [HQ.out]; exact hr2)).trans HQ.out
          clear hr2
          go_wp2
          refine bodyPost_disk rfl (w.heap.size + 1) (.slice a2 fs2.length c2) dn2 fu2 rfl rfl ?_ ?_ ?_ ?_
          case refine_1 => go_simp
          case refine_2 => go_simp
          case refine_3 => go_simp
          case refine_4 =>
            rw [HST.out]
            exact state_end HF2.out HH2.out HB2.out
      · obtain ⟨q0, q1, q2, q3, -⟩ := HRW.out
        have HK := Lib.hid (HA.out.c3 HR0.out wr g pF pT pC (.slice av (o 3).fs.length cv) HFL.out HRW.out)
        clear q0 q1 q2
        generalize hq : o 4 = o2 at *
        have HQ := Lib.hid hq
        clear hq
        go_wp2_with fail
        refine HK.out.mono ?_
        rintro e w2 ⟨v2, rfl, hf2, hh2, hb2⟩
        have HH2 := Lib.hid (hh2 _ (by omega) HHI.out)
        have HF2 := Lib.hid hf2
        obtain ⟨a2, c2, rfl⟩ := files_slice hf2
        have e0 := Dx.on HD.out hb2 hlt0
        have e1 := Dx.on HE.out hb2 hlt1
        obtain ⟨d0, d1, d2, d3, d4, d5⟩ := e0
        obtain ⟨x0, x1, x2, x3, x4, x5⟩ := e1
        have hz2 := hb2.size
        have HB2 := Lib.hid (HBW.out.trans (hb2.mono (by omega)))
        have HD2 := Lib.hid (Dx.on HD.out hb2 hlt0)
        have HE2 := Lib.hid (Dx.on HE.out hb2 hlt1)
        clear hf2 hh2 hb2
        rcases o2 with ⟨fs2, dn2, fu2, r2⟩
        simp only at *
        by_cases hr2 : r2 = 0
        · subst hr2
          go_wp2
          go_roundg gg
          case measure => omega
          case rel => exact ⟨4, .slice a2 fs2.length c2, by have := HG.out; omega, rfl, by show (o 4).r = 0; rw [HQ.out], by
            rw [HQ.out]
            exact state_next HD2.out HE2.out HF2.out HH2.out HB2.out (by omega)⟩
        · have hr3 : ¬ ((r2 : Int) = 0) := by omega
          have hr4 : ((r2 : Int) != 0) = true := by simp; omega
          have HST : Hid (True) := trivial
          clear hr2
          go_wp2
          refine bodyPost_disk rfl (w.heap.size + 1) (.slice a2 fs2.length c2) dn2 fu2 rfl rfl ?_ ?_ ?_ ?_
          case refine_1 => go_simp
          case refine_2 => go_simp
          case refine_3 => go_simp
          case refine_4 =>
            first | exact state_end HF2.out HH2.out HB2.out | (rw [HQ.out]; exact state_end HF2.out HH2.out HB2.out)
end Dk
end Go.Proofs.Ytjgdmdgiicpemaa

/- LOADING a snapshot: snap.Load. -/
namespace Go.Proofs.Ytjgdmdgiicpemaa
open Go.RowKit Go.Lib Go.Sort
namespace Dk
open Hd
def nSn : ByteArray := ⟨#[115, 110, 97, 112]⟩
def lsL (fs : List Fl) (dn : Bool) : List UInt8 := fmL (rdS fs dn nSn).data.toList
def lsI (fs : List Fl) (dn : Bool) : Nat := if rdE fs dn nSn = 0 then sdI (lsL fs dn) else 0
def lsT (fs : List Fl) (dn : Bool) : Nat := if rdE fs dn nSn = 0 then sdT (lsL fs dn) else 0
def lsM (fs : List Fl) (dn : Bool) : List Nat := if rdE fs dn nSn = 0 then sdM (lsL fs dn) else []
def lsD (fs : List Fl) (dn : Bool) : List UInt8 := if rdE fs dn nSn = 0 then sdD (lsL fs dn) else []
def lsE (fs : List Fl) (dn : Bool) : Nat := if rdE fs dn nSn = 0 then sdE (lsL fs dn) else if rdE fs dn nSn = 6 then 0 else rdE fs dn nSn
def LoadS (w : World) (fs : List Fl) (dn : Bool) (e : Ending) (w' : World) : Prop :=
  ∃ v', e = .returned (.tuple #[.agg #[.int .u64 (lsI fs dn : Nat), .int .u64 (lsT fs dn : Nat), v', .string (PM.bs (lsD fs dn))], .int .i64 (lsE fs dn : Nat)]) ∧ OwnI w' w.heap.size v' (lsM fs dn)
theorem LoadS.none_ {w w' : World} {fs : List Fl} {dn : Bool} (h : rdE fs dn nSn = 6) : LoadS w fs dn (.returned (.tuple #[.agg #[.int .u64 0, .int .u64 0, .slice none 0 0, .string ⟨#[]⟩], .int .i64 0])) w' := by
  refine ⟨.slice none 0 0, ?_, ?_⟩
  · unfold lsI lsT lsD lsE; rw [h]; rfl
  · unfold lsM; rw [h]; exact OwnI.nil _ _
theorem LoadS.bad {w w' : World} {fs : List Fl} {dn : Bool} (h : rdE fs dn nSn ≠ 6) (h0 : rdE fs dn nSn ≠ 0) : LoadS w fs dn (.returned (.tuple #[.agg #[.int .u64 0, .int .u64 0, .slice none 0 0, .string ⟨#[]⟩], .int .i64 (rdE fs dn nSn : Nat)])) w' := by
  refine ⟨.slice none 0 0, ?_, ?_⟩
  · unfold lsI lsT lsD lsE; rw [if_neg h0, if_neg h0, if_neg h0, if_neg h0, if_neg h]; rfl
  · unfold lsM; rw [if_neg h0]; exact OwnI.nil _ _
theorem LoadS.ok {w w' : World} {fs : List Fl} {dn : Bool} (h : rdE fs dn nSn = 0) {v : Value} (ho : OwnI w' w.heap.size v (sdM (lsL fs dn))) : LoadS w fs dn (.returned (.tuple #[.agg #[.int .u64 (sdI (lsL fs dn) : Nat), .int .u64 (sdT (lsL fs dn) : Nat), v, .string (PM.bs (sdD (lsL fs dn)))], .int .i64 (sdE (lsL fs dn) : Nat)])) w' := by
  refine ⟨v, ?_, ?_⟩
  · unfold lsI lsT lsD lsE; rw [if_pos h, if_pos h, if_pos h, if_pos h]
  · unfold lsM; rw [if_pos h]; exact ho
theorem rdS_size (fs : List Fl) (dn : Bool) (nm : ByteArray) (hf : Fine fs) : (rdS fs dn nm).size ≤ maxLen := by
  unfold rdS
  split
  · cases hl : fs[idxN fs nm]? with
    | none => exact Nat.zero_le _
    | some f => exact (hf f (List.mem_of_getElem? hl)).1
  · exact Nat.zero_le _
theorem tfP_len (l : List UInt8) : (PM.tfP l).length ≤ l.length := by
  unfold PM.tfP
  split
  · rw [List.length_take, List.length_drop]
    exact Nat.le_trans (Nat.min_le_right _ _) (by omega)
  · exact Nat.zero_le _
theorem fmL_len (l : List UInt8) : (fmL l).length ≤ l.length := by
  by_cases h : PM.tfW l = 0
  · by_cases h2 : PM.tfR l = []
    · rw [(fm_ok l h h2).1]; exact tfP_len l
    · rw [(fm_more l h h2).1]; exact Nat.zero_le _
  · rw [(fm_bad l h).1]; exact Nat.zero_le _
set_option maxHeartbeats 1000000 in
theorem load_snap_any (dv : Value) (dn : Bool) (fu : Int) (fs : List Fl) (w : World) (hf : Files w w.heap.size dv fs) :
    Calls Try.prog 8 #[.agg #[dv, .bool dn, .int .i64 fu]] w fun e w' => LoadS w fs dn e w' ∧ Below w.heap.size w w' := by
  have h1 := fun w hw => read_own dv dn fu fs nSn w hw
  have HF := Lib.hid hf
  have hfine := hf.fine
  obtain ⟨a, c, rfl, -⟩ := hf
  unfold ReadIs at h1
  have HR := Lib.hid (h1 _ ((HF.out.al (.cells #[.slice a fs.length c, .bool dn, .int .i64 fu] 27)).al (.cells #[.int .u64 0, .int .u64 0, .slice none 0 0, .string ⟨#[]⟩] 30)))
  have HRB : Hid (∀ z, Below ((w.alloc (.cells #[.slice a fs.length c, .bool dn, .int .i64 fu] 27)).alloc (.cells #[.int .u64 0, .int .u64 0, .slice none 0 0, .string ⟨#[]⟩] 30)).heap.size ((w.alloc (.cells #[.slice a fs.length c, .bool dn, .int .i64 fu] 27)).alloc (.cells #[.int .u64 0, .int .u64 0, .slice none 0 0, .string ⟨#[]⟩] 30)) z → Bx4 z (w.heap.size + 1) (.int .u64 0) (.int .u64 0) (.slice none 0 0) (.string ⟨#[]⟩) ∧ Below w.heap.size w z) := by
    intro z hb
    have h := Bx4.made (w.alloc (.cells #[.slice a fs.length c, .bool dn, .int .i64 fu] 27)) (.int .u64 0) (.int .u64 0) (.slice none 0 0) (.string ⟨#[]⟩) 30
    rw [World.size_alloc] at h
    exact ⟨h.below hb, (((Below.refl w.heap.size w).alloc (Nat.le_refl _) _).alloc (by simp) _).trans (hb.mono (by simp; omega))⟩
  unfold nSn at HR
  have hsz := rdS_size fs dn nSn hfine
  clear h1 hfine
  by_cases h0 : rdE fs dn nSn = 0
  · have HG := Lib.hid (fun v w' ho => LoadS.ok (w := w) (w' := w') h0 (v := v) ho)
    have HFR := Lib.hid (fun w => framed_any (rdS fs dn nSn) w hsz)
    have hll : (lsL fs dn).length ≤ maxLen := Nat.le_trans (fmL_len _) hsz
    have HT := Lib.hid (fun g b z (hz : Tk z g (lsL fs dn) b) => snap_take g (lsL fs dn) b z hz hll)
    have eL : fmL (rdS fs dn nSn).data.toList = lsL fs dn := rfl
    unfold FramedIs at HFR
    rw [eL] at HFR
    have h0' : rdE fs dn ⟨#[115, 110, 97, 112]⟩ = 0 := h0
    rw [h0'] at HR
    have e9 : rdS fs dn ⟨#[115, 110, 97, 112]⟩ = rdS fs dn nSn := rfl
    rw [e9] at HR
    clear h0 h0' hsz e9 eL hll
    generalize rdS fs dn nSn = s at *
    generalize fmB s.data.toList = fb at *
    generalize lsL fs dn = l at *
    go_enter Try.func8, Try.ntmps8
    go_wp2_with fail
    refine HR.out.mono ?_
    rintro e w1 ⟨rfl, hb⟩
    have RB1 := Lib.hid (HRB.out _ hb)
    clear hb
    go_wp2_with (go_at_call 21; go_loud ((with_reducible refine (HFR.out _).mono ?_); rintro e w2 ⟨rfl, hb⟩; have RB2 := Lib.hid (And.intro (RB1.out.1.below hb) (RB1.out.2.trans (hb.mono RB1.out.2.size))); clear hb))
    go_wp2_with fail
    refine (HT.out w2.heap.size fb _ (Tk.made _ w2 l fb)).mono ?_
    rintro e w3 ⟨⟨v3, rfl, hown⟩, ho⟩
    obtain ⟨a3, k3, rfl⟩ := hown.slice
    have hlt := RB2.out.1.lt
    have RB3 := Lib.hid ((RB2.out.1.below ((Below.refl _ _).alloc (Nat.le_refl _) _)).only ho (by omega))
    have HO3 := Lib.hid (hown.less (b2 := w.heap.size + 2) (by simp; omega))
    have HB3 := Lib.hid (RB2.out.2.trans (((Below.refl w.heap.size w2).alloc (by omega) _).trans (ho.below (by simp; omega) (by omega))))
    clear hown ho
    obtain ⟨r0, r1, r2, r3⟩ := RB3.out.cells
    obtain ⟨f0, f1, f2, f3⟩ := RB3.out.fz
    go_wp2
    refine bodyPost_snap rfl (w.heap.size + 1) (sdI l) (sdT l) (.slice a3 (sdM l).length k3) (PM.bs (sdD l)) rfl rfl ?_ ?_
    case refine_1 => exact (((RB3.out.set0 _).set1 _).set2 _).set3 _
    case refine_2 =>
      refine ⟨HG.out _ _ (((((HO3.out.put (p := w.heap.size + 1) (by omega) 0 _).put (p := w.heap.size + 1) (by omega) 1 _).put (p := w.heap.size + 1) (by omega) 2 _).put (p := w.heap.size + 1) (by omega) 3 _).less (by omega)), ?_⟩
      exact bset (bset (bset (bset HB3.out (by show w.heap.size ≤ w.heap.size + 1; omega) _) (by show w.heap.size ≤ w.heap.size + 1; omega) _) (by show w.heap.size ≤ w.heap.size + 1; omega) _) (by show w.heap.size ≤ w.heap.size + 1; omega) _
  · by_cases h6 : rdE fs dn nSn = 6
    · have HN := Lib.hid (fun w' => LoadS.none_ (w := w) (w' := w') h6)
      have h6' : rdE fs dn ⟨#[115, 110, 97, 112]⟩ = 6 := h6
      rw [h6'] at HR
      clear h0 h6 h6' hsz
      generalize rdS fs dn ⟨#[115, 110, 97, 112]⟩ = s at *
      go_enter Try.func8, Try.ntmps8
      go_wp2_with fail
      refine HR.out.mono ?_
      rintro e w1 ⟨rfl, hb⟩
      have RB1 := Lib.hid (HRB.out _ hb)
      clear hb
      obtain ⟨r0, r1, r2, r3⟩ := RB1.out.1.cells
      obtain ⟨f0, f1, f2, f3⟩ := RB1.out.1.fz
      go_wp2
      refine bodyPost_snap rfl (w.heap.size + 1) 0 0 (.slice none 0 0) ⟨#[]⟩ rfl rfl ?_ ?_
      case refine_1 => exact (((RB1.out.1.set0 _).set1 _).set2 _).set3 _
      case refine_2 => exact ⟨HN.out _, bset (bset (bset (bset RB1.out.2 (by show w.heap.size ≤ w.heap.size + 1; omega) _) (by show w.heap.size ≤ w.heap.size + 1; omega) _) (by show w.heap.size ≤ w.heap.size + 1; omega) _) (by show w.heap.size ≤ w.heap.size + 1; omega) _⟩
    · have HN := Lib.hid (fun w' => LoadS.bad (w := w) (w' := w') h6 h0)
      have e9 : rdE fs dn ⟨#[115, 110, 97, 112]⟩ = rdE fs dn nSn := rfl
      rw [e9] at HR
      have h0' : ¬ ((rdE fs dn nSn : Int) = 0) := by omega
      have h6' : ¬ ((rdE fs dn nSn : Int) = 6) := by omega
      have h0'' : (((rdE fs dn nSn : Nat) : Int) == 0) = false := by simp; omega
      have h6'' : (((rdE fs dn nSn : Nat) : Int) == 6) = false := by simp; omega
      clear h0 h6 hsz e9
      generalize rdS fs dn ⟨#[115, 110, 97, 112]⟩ = s at *
      generalize rdE fs dn nSn = re at *
      go_enter Try.func8, Try.ntmps8
      go_wp2_with fail
      refine HR.out.mono ?_
      rintro e w1 ⟨rfl, hb⟩
      have RB1 := Lib.hid (HRB.out _ hb)
      clear hb
      obtain ⟨r0, r1, r2, r3⟩ := RB1.out.1.cells
      obtain ⟨f0, f1, f2, f3⟩ := RB1.out.1.fz
      go_wp2
      refine bodyPost_snap rfl (w.heap.size + 1) 0 0 (.slice none 0 0) ⟨#[]⟩ rfl rfl ?_ ?_
      case refine_1 => exact (((RB1.out.1.set0 _).set1 _).set2 _).set3 _
      case refine_2 => exact ⟨HN.out _, bset (bset (bset (bset RB1.out.2 (by show w.heap.size ≤ w.heap.size + 1; omega) _) (by show w.heap.size ≤ w.heap.size + 1; omega) _) (by show w.heap.size ≤ w.heap.size + 1; omega) _) (by show w.heap.size ≤ w.heap.size + 1; omega) _⟩
end Dk
end Go.Proofs.Ytjgdmdgiicpemaa

/- SAVING under the name snap at any right disk, with any fuse: what stands there then, and behind a crash. -/
namespace Go.Proofs.Ytjgdmdgiicpemaa
open Go.RowKit Go.Lib Go.Sort
namespace Dk
def nSt : ByteArray := ⟨#[115, 110, 97, 112, 46, 116, 109, 112]⟩
theorem tH : nSn.toList = [115, 110, 97, 112] := by rw [ByteArray.toList_eq]; rfl
theorem tT : nSt.toList = [115, 110, 97, 112, 46, 116, 109, 112] := by rw [ByteArray.toList_eq]; rfl
theorem eHT : (nSn.toList == nSt.toList) = false := by rw [tH, tT]; decide
theorem okH : nmOk nSn = true := by unfold nmOk; rw [tH]; rfl
theorem okT' : nmOk nSt = true := by unfold nmOk; rw [tT]; rfl
/-- What stands behind the first k changes of a save of da at the right disk fs. -/
structure Sq (S : Nat) (fs : List Fl) (da : ByteArray) (k : Nat) (o : Out) : Prop where
  chk : chkN o.fs = 0
  small : ∀ f ∈ o.fs, f.da.size ≤ S
  lo : -9223372036854775808 ≤ o.fu
  hi : o.fu ≤ 9223372036854775807
  up : o.r = 0 → o.dn = false
  other : ∀ nm, nm ≠ nSt → nm ≠ nSn → look o.fs nm = look fs nm
  keep : k < 4 ∨ o.r ≠ 0 → look o.fs nSn = look fs nSn
  s1 : k = 1 → o.r = 0 → look o.fs nSt = none ∧ o.fs.length ≤ fs.length
  s2 : k = 2 → o.r = 0 → look o.fs nSt = some ⟨nSt, da, 0⟩
  s3 : k = 3 → o.r = 0 → look o.fs nSt = some ⟨nSt, da, (da.size : Nat)⟩
  s4 : k = 4 → o.r = 0 → look o.fs nSn = some ⟨nSn, da, (da.size : Nat)⟩
  why : o.r = 0 ∨ o.r = 8 ∨ (o.r = 11 ∧ 4096 ≤ fs.length)
theorem nHT : nSn ≠ nSt := fun e => by have := eHT; rw [e] at this; simp at this
theorem fu_lo {fu : Int} (h : -9223372036854775808 ≤ fu) : -9223372036854775808 ≤ (if 0 < fu then fu - 1 else fu) := by split <;> omega
theorem fu_hi {fu : Int} (h : fu ≤ 9223372036854775807) : (if 0 < fu then fu - 1 else fu) ≤ 9223372036854775807 := by split <;> omega
theorem outO_up {fs ch : List Fl} {fu : Int} {r : Nat} {ad : Bool} (h : chkN fs = 0) : outO fs false fu r ch ad = if r = 0 then (if fu = 0 then ⟨if ad then ch else fs, true, 0, 8⟩ else ⟨ch, false, if 0 < fu then fu - 1 else fu, 0⟩) else ⟨fs, false, fu, r⟩ := by
  unfold outO; rw [if_pos h, if_neg (by simp)]
theorem look_lt {fs : List Fl} {nm : ByteArray} {f : Fl} (h : look fs nm = some f) : idxN fs nm < fs.length := (List.getElem?_eq_some_iff.1 h).1
theorem look_ge {fs : List Fl} {nm : ByteArray} (h : look fs nm = none) : ¬ idxN fs nm < fs.length := fun h1 => by unfold look at h; rw [List.getElem?_eq_getElem h1] at h; cases h
theorem Sq.stop {S : Nat} {fs : List Fl} {da : ByteArray} {k : Nat} {o : Out} (h : Sq S fs da k o) (hr : o.r ≠ 0) (j : Nat) : Sq S fs da j o where
  chk := h.chk
  small := h.small
  lo := h.lo
  hi := h.hi
  up := h.up
  other := h.other
  keep := fun _ => h.keep (.inr hr)
  s1 := fun _ e => absurd e hr
  s2 := fun _ e => absurd e hr
  s3 := fun _ e => absurd e hr
  s4 := fun _ e => absurd e hr
  why := h.why
theorem sq1 (S : Nat) (fs : List Fl) (da : ByteArray) (fu : Int) (h0 : chkN fs = 0) (hs : ∀ f ∈ fs, f.da.size ≤ S) (hlo : -9223372036854775808 ≤ fu) (hhi : fu ≤ 9223372036854775807) : Sq S fs da 1 (rw1 nSt fs false fu) := by
  obtain ⟨h4, hok⟩ := chk_fine fs h0
  unfold rw1
  cases hl : look fs nSt with
  | none =>
    rw [if_pos (rd_none h0 hl).2]
    exact ⟨h0, hs, hlo, hhi, fun _ => rfl, fun _ _ _ => rfl, fun _ => rfl, fun _ _ => ⟨hl, Nat.le_refl _⟩, fun e => by omega, fun e => by omega, fun e => by omega, .inl rfl⟩
  | some f =>
    have hn := look_lt hl
    rw [if_neg (by rw [(rd_some h0 hl).2]; omega)]
    unfold drpO
    have hr : rsN fs nSt = 0 := if_pos hn
    rw [outO_up h0, hr, if_pos rfl]
    have hok2 := del_ok hok (idxN fs nSt)
    have hel : (fs.eraseIdx (idxN fs nSt)).length = fs.length - 1 := List.length_eraseIdx_of_lt hn
    split
    · exact ⟨h0, hs, by show (-9223372036854775808 : Int) ≤ 0; omega, by show (0 : Int) ≤ 9223372036854775807; omega, (fun e => by cases e), fun _ _ _ => rfl, fun _ => rfl, (fun _ e => by cases e), fun e => by omega, fun e => by omega, fun e => by omega, .inr (.inl rfl)⟩
    · exact ⟨chk_of (by show (fs.eraseIdx _).length ≤ _; omega) hok2, fun x hx => hs x (List.mem_of_mem_eraseIdx hx), fu_lo hlo, fu_hi hhi, fun _ => rfl, fun nm hne _ => look_del hok nSt nm hn hne, fun _ => look_del hok nSt nSn hn nHT, fun _ _ => ⟨look_del_self hok nSt hn, by show (fs.eraseIdx _).length ≤ _; omega⟩, fun e => by omega, fun e => by omega, fun e => by omega, .inl rfl⟩
theorem sq2 (S : Nat) (hS : 70000 ≤ S) (fs : List Fl) (da : ByteArray) (hda : da.size ≤ 70000) (o : Out) (h : Sq S fs da 1 o) (hr : o.r = 0) : Sq S fs da 2 (addO o.fs o.dn o.fu nSt da) := by
  obtain ⟨hl, hlen⟩ := h.s1 rfl hr
  obtain ⟨h4, hok⟩ := chk_fine _ h.chk
  have hn := look_ge hl
  have hF : addF o.fs nSt da = ⟨nSt, da, 0⟩ := by unfold addF; rw [hl]
  rw [h.up hr]
  unfold addO
  rw [outO_up h.chk, hF]
  have hh : hasN o.fs nSt = false := by unfold hasN; simpa using hn
  have hra : raN o.fs.length nSt (hasN o.fs nSt) = if 4096 ≤ o.fs.length then 11 else 0 := by unfold raN; rw [okT', if_pos rfl, hh, if_neg (by simp)]
  rw [hra]
  have hpl : (putF o.fs ⟨nSt, da, 0⟩).length = o.fs.length + 1 := by rw [put_len _ hok]; exact if_neg hn
  by_cases hful : 4096 ≤ o.fs.length
  · rw [if_pos hful, if_neg (by omega)]
    exact ⟨h.chk, h.small, h.lo, h.hi, (fun e => by cases e), h.other, fun _ => h.keep (.inl (by omega)), fun e => by omega, (fun _ e => by cases e), fun e => by omega, fun e => by omega, .inr (.inr ⟨rfl, by omega⟩)⟩
  · rw [if_neg hful, if_pos rfl]
    have hp : chkN (putF o.fs ⟨nSt, da, 0⟩) = 0 := chk_of (by omega) (put_ok hok _ ⟨by show (0 : Int) ≤ 0; omega, by show (0 : Int) ≤ (da.size : Nat); omega⟩)
    have hps : ∀ f ∈ putF o.fs ⟨nSt, da, 0⟩, f.da.size ≤ S := fun f hf => by
      rcases (put_mem hok _ f).1 hf with rfl | ⟨hf, -⟩
      · show da.size ≤ S; omega
      · exact h.small f hf
    have hoth : ∀ nm, nm ≠ nSt → look (putF o.fs ⟨nSt, da, 0⟩) nm = look o.fs nm := fun nm hne => look_put_ne hok ⟨nSt, da, 0⟩ nm hne
    split
    · exact ⟨hp, hps, by show (-9223372036854775808 : Int) ≤ 0; omega, by show (0 : Int) ≤ 9223372036854775807; omega, (fun e => by cases e), fun nm h1 h2 => (hoth nm h1).trans (h.other nm h1 h2), fun _ => (hoth nSn nHT).trans (h.keep (.inl (by omega))), fun e => by omega, (fun _ e => by cases e), fun e => by omega, fun e => by omega, .inr (.inl rfl)⟩
    · exact ⟨hp, hps, fu_lo h.lo, fu_hi h.hi, fun _ => rfl, fun nm h1 h2 => (hoth nm h1).trans (h.other nm h1 h2), fun _ => (hoth nSn nHT).trans (h.keep (.inl (by omega))), fun e => by omega, fun _ _ => look_put hok ⟨nSt, da, 0⟩, fun e => by omega, fun e => by omega, .inl rfl⟩
theorem sq3 (S : Nat) (hS : 70000 ≤ S) (fs : List Fl) (da : ByteArray) (hda : da.size ≤ 70000) (o : Out) (h : Sq S fs da 2 o) (hr : o.r = 0) : Sq S fs da 3 (synO o.fs o.dn o.fu nSt) := by
  have hl := h.s2 rfl hr
  obtain ⟨h4, hok⟩ := chk_fine _ h.chk
  have hn := look_lt hl
  have hF : synF o.fs nSt = ⟨nSt, da, (da.size : Nat)⟩ := by unfold synF; rw [hl]
  rw [h.up hr]
  unfold synO
  have hrs : rsN o.fs nSt = 0 := if_pos hn
  rw [outO_up h.chk, hF, hrs, if_pos rfl]
  have hpl : (putF o.fs ⟨nSt, da, (da.size : Nat)⟩).length = o.fs.length := by rw [put_len _ hok]; exact if_pos hn
  have hp : chkN (putF o.fs ⟨nSt, da, (da.size : Nat)⟩) = 0 := chk_of (by omega) (put_ok hok _ ⟨by show (0 : Int) ≤ (da.size : Nat); omega, Int.le_refl _⟩)
  have hps : ∀ f ∈ putF o.fs ⟨nSt, da, (da.size : Nat)⟩, f.da.size ≤ S := fun f hf => by
    rcases (put_mem hok _ f).1 hf with rfl | ⟨hf, -⟩
    · show da.size ≤ S; omega
    · exact h.small f hf
  have hoth : ∀ nm, nm ≠ nSt → look (putF o.fs ⟨nSt, da, (da.size : Nat)⟩) nm = look o.fs nm := fun nm hne => look_put_ne hok ⟨nSt, da, (da.size : Nat)⟩ nm hne
  split
  · exact ⟨h.chk, h.small, by show (-9223372036854775808 : Int) ≤ 0; omega, by show (0 : Int) ≤ 9223372036854775807; omega, (fun e => by cases e), h.other, fun _ => h.keep (.inl (by omega)), fun e => by omega, fun e => by omega, (fun _ e => by cases e), fun e => by omega, .inr (.inl rfl)⟩
  · exact ⟨hp, hps, fu_lo h.lo, fu_hi h.hi, fun _ => rfl, fun nm h1 h2 => (hoth nm h1).trans (h.other nm h1 h2), fun _ => (hoth nSn nHT).trans (h.keep (.inl (by omega))), fun e => by omega, fun e => by omega, fun _ _ => look_put hok ⟨nSt, da, (da.size : Nat)⟩, fun e => by omega, .inl rfl⟩
theorem sq4 (S : Nat) (hS : 70000 ≤ S) (fs : List Fl) (da : ByteArray) (hda : da.size ≤ 70000) (o : Out) (h : Sq S fs da 3 o) (hr : o.r = 0) : Sq S fs da 4 (swpO o.fs o.dn o.fu nSt nSn) := by
  have hl := h.s3 rfl hr
  obtain ⟨h4, hok⟩ := chk_fine _ h.chk
  have hn := look_lt hl
  have hF : swpF o.fs nSt nSn = ⟨nSn, da, (da.size : Nat)⟩ := by unfold swpF; rw [hl]
  rw [h.up hr]
  unfold swpO
  have hrw : rwN o.fs nSt nSn = 0 := by
    unfold rwN
    rw [show o.fs[idxN o.fs nSt]? = some ⟨nSt, da, (da.size : Nat)⟩ from hl]
    show (if ((da.size : Nat) : Int) < (da.size : Nat) then 9 else if nmOk nSn = true then 0 else 5) = 0
    rw [if_neg (by omega), if_pos okH]
  rw [outO_up h.chk, hF, hrw, if_pos rfl]
  have hok2 := del_ok hok (idxN o.fs nSt)
  have hel : (o.fs.eraseIdx (idxN o.fs nSt)).length = o.fs.length - 1 := List.length_eraseIdx_of_lt hn
  have hpl : (putF (o.fs.eraseIdx (idxN o.fs nSt)) ⟨nSn, da, (da.size : Nat)⟩).length ≤ o.fs.length := by rw [put_len _ hok2]; split <;> omega
  have hp : chkN (putF (o.fs.eraseIdx (idxN o.fs nSt)) ⟨nSn, da, (da.size : Nat)⟩) = 0 := chk_of (by omega) (put_ok hok2 _ ⟨by show (0 : Int) ≤ (da.size : Nat); omega, Int.le_refl _⟩)
  have hps : ∀ f ∈ putF (o.fs.eraseIdx (idxN o.fs nSt)) ⟨nSn, da, (da.size : Nat)⟩, f.da.size ≤ S := fun f hf => by
    rcases (put_mem hok2 _ f).1 hf with rfl | ⟨hf, -⟩
    · show da.size ≤ S; omega
    · exact h.small f (List.mem_of_mem_eraseIdx hf)
  have hoth : ∀ nm, nm ≠ nSt → nm ≠ nSn → look (putF (o.fs.eraseIdx (idxN o.fs nSt)) ⟨nSn, da, (da.size : Nat)⟩) nm = look o.fs nm := fun nm h1 h2 => (look_put_ne hok2 ⟨nSn, da, (da.size : Nat)⟩ nm h2).trans (look_del hok nSt nm hn h1)
  split
  · exact ⟨h.chk, h.small, by show (-9223372036854775808 : Int) ≤ 0; omega, by show (0 : Int) ≤ 9223372036854775807; omega, (fun e => by cases e), h.other, fun _ => h.keep (.inl (by omega)), fun e => by omega, fun e => by omega, fun e => by omega, (fun _ e => by cases e), .inr (.inl rfl)⟩
  · exact ⟨hp, hps, fu_lo h.lo, fu_hi h.hi, fun _ => rfl, fun nm h1 h2 => (hoth nm h1 h2).trans (h.other nm h1 h2), (fun e => by rcases e with e | e; omega; exact absurd rfl e), fun e => by omega, fun e => by omega, fun e => by omega, fun _ _ => look_put hok2 ⟨nSn, da, (da.size : Nat)⟩, .inl rfl⟩
theorem sq_all (S : Nat) (hS : 70000 ≤ S) (fs : List Fl) (da : ByteArray) (hda : da.size ≤ 70000) (fu : Int) (h0 : chkN fs = 0) (hs : ∀ f ∈ fs, f.da.size ≤ S) (hlo : -9223372036854775808 ≤ fu) (hhi : fu ≤ 9223372036854775807) :
    Sq S fs da 1 (seqO nSn nSt da fs false fu 1) ∧ Sq S fs da 2 (seqO nSn nSt da fs false fu 2) ∧ Sq S fs da 3 (seqO nSn nSt da fs false fu 3) ∧ Sq S fs da 4 (seqO nSn nSt da fs false fu 4) := by
  have h1 : Sq S fs da 1 (seqO nSn nSt da fs false fu 1) := by
    rw [seq_succ]
    show Sq S fs da 1 (thenO ⟨fs, false, fu, 0⟩ (stp nSn nSt da 0))
    rw [thenO_ok rfl]
    exact sq1 S fs da fu h0 hs hlo hhi
  have h2 : Sq S fs da 2 (seqO nSn nSt da fs false fu 2) := by
    rw [seq_succ]
    by_cases hr : (seqO nSn nSt da fs false fu 1).r = 0
    · rw [thenO_ok hr]; exact sq2 S hS fs da hda _ h1 hr
    · rw [thenO_bad hr]; exact h1.stop hr 2
  have h3 : Sq S fs da 3 (seqO nSn nSt da fs false fu 3) := by
    rw [seq_succ]
    by_cases hr : (seqO nSn nSt da fs false fu 2).r = 0
    · rw [thenO_ok hr]; exact sq3 S hS fs da hda _ h2 hr
    · rw [thenO_bad hr]; exact h2.stop hr 3
  refine ⟨h1, h2, h3, ?_⟩
  rw [seq_succ]
  by_cases hr : (seqO nSn nSt da fs false fu 3).r = 0
  · rw [thenO_ok hr]; exact sq4 S hS fs da hda _ h3 hr
  · rw [thenO_bad hr]; exact h3.stop hr 4
theorem chk_bd {fs : List Fl} (h : chkN fs = 0) : Bd fs := ok_bd (chk_fine fs h).2
theorem small_fine {S : Nat} (hS : S ≤ 4611686018427387904) {fs : List Fl} (h : chkN fs = 0) (hs : ∀ f ∈ fs, f.da.size ≤ S) : Fine fs := fun f hf => by
  have h1 := hs f hf
  have h2 := chk_bd h f hf
  exact ⟨by unfold maxLen; omega, by omega, by omega⟩
theorem Sq.inv {S : Nat} (hS : S ≤ 4611686018427387904) {fs : List Fl} {da : ByteArray} (hda : da.size ≤ 70000) {k : Nat} {o : Out} (h : Sq S fs da k o) : Inv da.size o where
  lo := h.lo
  hi := h.hi
  fine := small_fine hS h.chk h.small
  len := by have := (chk_fine _ h.chk).1; omega
  room := fun f hf => by have := h.small f hf; omega
theorem crash_none {fs : List Fl} {ks : List Int} {nm : ByteArray} (h0 : chkN fs = 0) (hl : look fs nm = none) : chkN (crS fs ks fs.length) = 0 ∧ look (crS fs ks fs.length) nm = none := by
  have h9 : chkN (crS fs ks fs.length) = 0 := chk_same fs _ h0 (crS_len _ _ _) (fun i i1 i2 => by obtain ⟨D, e, -⟩ := crS_each fs ks h0 i i2 i1; rw [e]) (fun i i1 => by obtain ⟨D, e, -⟩ := crS_each fs ks h0 i (by rw [crS_len] at i1; exact i1) i1; rw [e]; simp)
  refine ⟨h9, look_none.2 fun f hf => ?_⟩
  obtain ⟨i, hi, rfl⟩ := List.getElem_of_mem hf
  have hi2 : i < fs.length := by rw [crS_len] at hi; exact hi
  obtain ⟨D, e, -⟩ := crS_each fs ks h0 i hi2 hi
  rw [e]
  exact look_none.1 hl fs[i] (List.getElem_mem hi2)
theorem crash_small {S : Nat} {fs : List Fl} {ks : List Int} (h0 : chkN fs = 0) (hs : ∀ f ∈ fs, f.da.size ≤ S) : ∀ f ∈ crS fs ks fs.length, f.da.size ≤ S ∧ f.sy = (f.da.size : Nat) := by
  intro f hf
  obtain ⟨i, hi, rfl⟩ := List.getElem_of_mem hf
  have hi2 : i < fs.length := by rw [crS_len] at hi; exact hi
  obtain ⟨D, e, h1, h2, h3⟩ := crS_each fs ks h0 i hi2 hi
  rw [e]
  have := hs _ (List.getElem_mem hi2)
  exact ⟨by show D.size ≤ S; omega, rfl⟩
theorem crash_chk {fs : List Fl} {ks : List Int} (h0 : chkN fs = 0) : chkN (crS fs ks fs.length) = 0 := by
  cases hl : look fs nSt with
  | none => exact (crash_none h0 hl).1
  | some f => exact chk_same fs _ h0 (crS_len _ _ _) (fun i i1 i2 => by obtain ⟨D, e, -⟩ := crS_each fs ks h0 i i2 i1; rw [e]) (fun i i1 => by obtain ⟨D, e, -⟩ := crS_each fs ks h0 i (by rw [crS_len] at i1; exact i1) i1; rw [e]; simp)
theorem ls_look {fs gs : List Fl} (h0 : chkN fs = 0) (h1 : chkN gs = 0) (hl : look gs nSn = look fs nSn) : lsI gs false = lsI fs false ∧ lsT gs false = lsT fs false ∧ lsM gs false = lsM fs false ∧ lsD gs false = lsD fs false ∧ lsE gs false = lsE fs false := by
  have key : rdS gs false nSn = rdS fs false nSn ∧ rdE gs false nSn = rdE fs false nSn := by
    cases hf : look fs nSn with
    | none =>
      rw [hf] at hl
      obtain ⟨a1, a2⟩ := rd_none h0 hf
      obtain ⟨b1, b2⟩ := rd_none h1 hl
      exact ⟨b1.trans a1.symm, b2.trans a2.symm⟩
    | some f =>
      rw [hf] at hl
      obtain ⟨a1, a2⟩ := rd_some h0 hf
      obtain ⟨b1, b2⟩ := rd_some h1 hl
      exact ⟨b1.trans a1.symm, b2.trans a2.symm⟩
  unfold lsI lsT lsM lsD lsE lsL
  rw [key.1, key.2]
  exact ⟨rfl, rfl, rfl, rfl, rfl⟩
/-- A whole file's content. -/
def snC (i t : Nat) (ms : List Nat) (d : ByteArray) : ByteArray := PM.bs (PM.frm (Hd.snB i t ms d))
/-- A right snapshot. -/
structure Rs (i t : Nat) (ms : List Nat) (d : ByteArray) : Prop where
  i64 : i < 2 ^ 64
  t64 : t < 2 ^ 64
  chk : Hd.chkS i t (ms.map fun (k : Nat) => (k : Int)) d = 0
theorem Rs.len {i t : Nat} {ms : List Nat} {d : ByteArray} (h : Rs i t ms d) : ms.length ≤ 7 ∧ (∀ m ∈ ms, m ≤ 7) ∧ d.size ≤ 64512 := by
  obtain ⟨h1, h2, h3⟩ := Hd.chk_ms _ _ _ _ h.chk
  rw [List.length_map] at h2
  refine ⟨h2, fun m hm => ?_, h3⟩
  have := h1 (m : Int) (List.mem_map.2 ⟨m, hm, rfl⟩)
  omega
theorem snB_len {i t : Nat} {ms : List Nat} {d : ByteArray} (h : Rs i t ms d) : (Hd.snB i t ms d).length ≤ 65000 := by
  obtain ⟨h1, h2, h3⟩ := h.len
  have l1 := Hd.num_le9 i h.i64
  have l2 := Hd.num_le9 t h.t64
  have l3 := Hd.mbs_len ms (by omega) (fun m hm => by have := h2 m hm; omega)
  have l4 : (PM.txt d.data.toList).length ≤ 64600 := by
    unfold PM.txt
    rw [List.length_append]
    have := Hd.num_le9 d.data.toList.length (by show d.size < _; omega)
    have e : d.data.toList.length = d.size := rfl
    omega
  unfold Hd.snB
  simp only [List.length_append]
  omega
theorem snC_size {i t : Nat} {ms : List Nat} {d : ByteArray} (h : Rs i t ms d) : (snC i t ms d).size ≤ 70000 := by
  unfold snC
  rw [PM.bs_size, PM.frm_length]
  have := snB_len h
  omega
theorem ls_file {fs : List Fl} {i t : Nat} {ms : List Nat} {d : ByteArray} {z : Int} (h0 : chkN fs = 0) (h : Rs i t ms d) (hl : look fs nSn = some ⟨nSn, snC i t ms d, z⟩) :
    lsI fs false = i ∧ lsT fs false = t ∧ lsM fs false = ms ∧ PM.bs (lsD fs false) = d ∧ lsE fs false = 0 := by
  obtain ⟨a1, a2⟩ := rd_some h0 hl
  obtain ⟨m1, m2, m3⟩ := h.len
  have hs : (rdS fs false nSn).data.toList = PM.frm (Hd.snB i t ms d) := by rw [a1]; exact PM.bs_data _
  have ht := PM.tf_back (Hd.snB i t ms d) [] (by have := snB_len h; omega)
  rw [List.append_nil] at ht
  have hL : lsL fs false = Hd.snB i t ms d := by
    unfold lsL
    rw [hs, (Hd.fm_ok _ ht.1 ht.2.2).1, ht.2.1]
  obtain ⟨-, w2, w3, w4, w5, w6⟩ := Hd.sd_whole i t ms d h.i64 h.t64 m1 m2 (by omega) h.chk
  unfold lsI lsT lsM lsD lsE
  rw [a2, hL, if_pos rfl, if_pos rfl, if_pos rfl, if_pos rfl, if_pos rfl]
  exact ⟨w2, w3, w4, w5, w6⟩
theorem ls_none {fs : List Fl} (h0 : chkN fs = 0) (hl : look fs nSn = none) : lsI fs false = 0 ∧ lsT fs false = 0 ∧ lsM fs false = [] ∧ lsD fs false = [] ∧ lsE fs false = 0 := by
  obtain ⟨a1, a2⟩ := rd_none h0 hl
  unfold lsI lsT lsM lsD lsE
  rw [a2]
  exact ⟨rfl, rfl, rfl, rfl, rfl⟩
/-- What is loaded behind a save, whatever the power took, and a crash. -/
theorem save_crash (S : Nat) (hS : 70000 ≤ S) (fs : List Fl) (fu : Int) (ks : List Int) (h0 : chkN fs = 0) (hs : ∀ f ∈ fs, f.da.size ≤ S ∧ f.sy = (f.da.size : Nat)) (hlo : -9223372036854775808 ≤ fu) (hhi : fu ≤ 9223372036854775807) (i t : Nat) (ms : List Nat) (d : ByteArray) (h : Rs i t ms d) (o : Out) (ho : o = seqO nSn nSt (snC i t ms d) fs false fu 4) :
    chkN o.fs = 0 ∧ chkN (crS o.fs ks o.fs.length) = 0 ∧ (o.r = 0 ∨ o.r = 8 ∨ (o.r = 11 ∧ 4096 ≤ fs.length)) ∧
    (o.r = 0 → lsI (crS o.fs ks o.fs.length) false = i ∧ lsT (crS o.fs ks o.fs.length) false = t ∧ lsM (crS o.fs ks o.fs.length) false = ms ∧ PM.bs (lsD (crS o.fs ks o.fs.length) false) = d ∧ lsE (crS o.fs ks o.fs.length) false = 0) ∧
    (¬ o.r = 0 → lsI (crS o.fs ks o.fs.length) false = lsI fs false ∧ lsT (crS o.fs ks o.fs.length) false = lsT fs false ∧ lsM (crS o.fs ks o.fs.length) false = lsM fs false ∧ lsD (crS o.fs ks o.fs.length) false = lsD fs false ∧ lsE (crS o.fs ks o.fs.length) false = lsE fs false) := by
  have hda := snC_size h
  have hq := (sq_all S hS fs (snC i t ms d) hda fu h0 (fun f hf => (hs f hf).1) hlo hhi).2.2.2
  rw [← ho] at hq
  have hc : chkN (crS o.fs ks o.fs.length) = 0 := crash_chk hq.chk
  refine ⟨hq.chk, hc, hq.why, fun hr => ?_, fun hr => ?_⟩
  · have hl := hq.s4 rfl hr
    have hl2 := (crash_look (ks := ks) hq.chk hl rfl).2
    exact ls_file hc h hl2
  · refine ls_look h0 hc ?_
    have hk := hq.keep (.inr hr)
    cases hl : look fs nSn with
    | none => rw [hl] at hk; exact (crash_none hq.chk hk).2
    | some f =>
      rw [hl] at hk
      exact (crash_look (ks := ks) hq.chk hk ((hs f (look_mem hl).1).2)).2
end Dk
end Go.Proofs.Ytjgdmdgiicpemaa

/- SAVING a snapshot: changes.None, snap.refuse, snap.Save. -/
namespace Go.Proofs.Ytjgdmdgiicpemaa
open Go.RowKit Go.Lib Go.Sort
namespace Dk
theorem hi_none (B : Nat) (n c : Nat) : Hi B (.slice none n c) := fun b off m k e => by simp at e
theorem bodyPost_disk1 {fn : Func} {p : Tmp} (h : fn.results = #[.cell p 27]) {R : Ending → World → Prop} {a : Act} {w : World} (B : Nat) (v : Value) (dn : Bool) (fu : Int) (hd : a.defers = [])
    (hp : a.tmps.getD p undef = .pointer (some ⟨B, 0, none⟩)) (h0 : w.cell? ⟨B, 0, none⟩ = some v) (h1 : w.cell? ⟨B, 1, none⟩ = some (.bool dn)) (h2 : w.cell? ⟨B, 2, none⟩ = some (.int .i64 fu))
    (hR : R (.returned (.agg #[v, .bool dn, .int .i64 fu])) w) : bodyPost Try.prog fn R .ret a w := by
  refine bodyPost_ret ?_ hd hR
  rw [Hd.one_result h, hp]
  have := load_disk w B v dn fu h0 h1 h2
  simp [asAddr, this, Result.andThen]
theorem two_made (w x : World) (v v2 : Value) (dn dn2 : Bool) (fu fu2 : Int) (hb : Below ((w.alloc (.cells #[v, .bool dn, .int .i64 fu] 27)).alloc (.cells #[v2, .bool dn2, .int .i64 fu2] 27)).heap.size ((w.alloc (.cells #[v, .bool dn, .int .i64 fu] 27)).alloc (.cells #[v2, .bool dn2, .int .i64 fu2] 27)) x) :
    Dx w.heap.size x v dn fu ∧ Dx (w.heap.size + 1) x v2 dn2 fu2 ∧ Below w.heap.size w x ∧ w.heap.size + 2 ≤ x.heap.size := by
  refine ⟨((Dx.made w v dn fu).keep ((Below.refl _ _).alloc (Nat.le_refl _) _) (by simp)).keep hb (by simp; omega), ?_, (((Below.refl _ _).alloc (Nat.le_refl _) _).alloc (by simp) _).trans (hb.mono (by simp; omega)), by have := hb.size; simp at this; omega⟩
  have := (Dx.made (w.alloc (.cells #[v, .bool dn, .int .i64 fu] 27)) v2 dn2 fu2).keep hb (by simp)
  simpa using this
/-- None at any disk. -/
def nonO (fs : List Fl) (dn : Bool) (fu : Int) : Out := if chkN fs = 0 then ⟨fs, dn, fu, 0⟩ else ⟨[], false, 0, 0⟩
def SomeD (w : World) (fs : List Fl) (dn : Bool) (fu : Int) (e : Ending) (w' : World) : Prop := ∃ v', e = .returned (.agg #[v', .bool dn, .int .i64 fu]) ∧ Files w' w'.heap.size v' fs ∧ Hi w.heap.size v' ∧ Below w.heap.size w w'
set_option maxRecDepth 100000 in
set_option maxHeartbeats 4000000 in
theorem none_any (dv : Value) (dn : Bool) (fu : Int) (fs : List Fl) (w : World) (hf : Files w w.heap.size dv fs) : Calls Try.prog 15 #[.agg #[dv, .bool dn, .int .i64 fu]] w (SomeD w (nonO fs dn fu).fs (nonO fs dn fu).dn (nonO fs dn fu).fu) := by
  have HC0 := Lib.hid (fun x hx => check_own dv dn fu fs x hx)
  have HF := Lib.hid hf
  have hfine := hf.fine
  by_cases h0 : chkN fs = 0
  · have hno : nonO fs dn fu = ⟨fs, dn, fu, 0⟩ := by unfold nonO; rw [if_pos h0]
    rw [hno]
    show Calls _ _ _ _ (SomeD w fs dn fu)
    clear hno
    rw [h0] at HC0
    have h4 := (chk_fine fs h0).1
    have HCL := Lib.hid (fun x hx => clone_own dv fs x hx h4)
    have HFI := Lib.hid hfine
    obtain ⟨a, c, rfl⟩ := files_slice hf
    generalize hn : fs.length = n at *
    have HN := Lib.hid hn
    clear hf h0 hfine hn
    unfold SomeD
    go_enter Try.func15, Try.ntmps15
    go_wp2_with (go_at_call 19; go_loud (refine (HC0.out _ ((HF.out.al _).al _)).mono ?_; rintro e w1 ⟨rfl, hb⟩; obtain ⟨hd, he, hw, hz⟩ := two_made _ _ _ _ _ _ _ _ hb; have HD1 := Lib.hid hd; have HE1 := Lib.hid he; have HW1 := Lib.hid hw; have HZ1 := Lib.hid hz; obtain ⟨d0, d1, d2, d3, d4, d5⟩ := hd; clear hb he hw hz))
    go_wp2_with (go_at_call 20; go_loud (refine (HCL.out _ (HF.out.on HW1.out HW1.out.size)).mono ?_; rintro e w2 ⟨v2, rfl, hown, hb⟩; obtain ⟨a2, c2, hv2⟩ := hown.slice; rw [HN.out] at hv2; subst hv2; obtain ⟨d0, d1, d2, d3, d4, d5⟩ := HD1.out.keep hb (Nat.lt_of_lt_of_le (by omega) HZ1.out); obtain ⟨x0, x1, x2, x3, x4, x5⟩ := HE1.out.keep hb (Nat.lt_of_lt_of_le (by omega) HZ1.out); have HB2 := Lib.hid (HW1.out.trans (hb.mono HW1.out.size)); have HI2 := Lib.hid (hown.hi); have HF2 := Lib.hid (hown.files HFI.out (by rw [HN.out]; omega)); clear hb hown))
    go_wp2
    refine bodyPost_disk1 rfl (w.heap.size + 1) (.slice a2 n c2) dn fu rfl rfl ?_ ?_ ?_ ?_
    case refine_1 => go_simp
    case refine_2 => go_simp
    case refine_3 => go_simp
    case refine_4 => exact ⟨_, rfl, ((HF2.out.put (HI2.out.le (B := w.heap.size + 2) (by have := HZ1.out; omega)) (by omega)).put3 (HI2.out.le (B := w.heap.size + 2) (by have := HZ1.out; omega)) (by omega)), HI2.out.le (by have := HZ1.out; omega), below3 (bset HB2.out (Nat.le_refl _) _) (Nat.le_succ _)⟩
  · have hno : nonO fs dn fu = ⟨[], false, 0, 0⟩ := by unfold nonO; rw [if_neg h0]
    rw [hno]
    show Calls _ _ _ _ (SomeD w [] false 0)
    clear hno
    have h10 := (chk_two fs).resolve_left h0
    rw [h10] at HC0
    obtain ⟨a, c, rfl⟩ := files_slice hf
    generalize fs.length = n at *
    clear hf h0 hfine
    unfold SomeD
    go_enter Try.func15, Try.ntmps15
    go_wp2_with (go_at_call 19; go_loud (refine (HC0.out _ ((HF.out.al _).al _)).mono ?_; rintro e w1 ⟨rfl, hb⟩; obtain ⟨hd, he, hw, hz⟩ := two_made _ _ _ _ _ _ _ _ hb; have HE1 := Lib.hid he; have HW1 := Lib.hid hw; have HZ1 := Lib.hid hz; obtain ⟨x0, x1, x2, x3, x4, x5⟩ := he; clear hb hd hw hz))
    go_wp2
    refine bodyPost_disk1 rfl (w.heap.size + 1) (.slice none 0 0) false 0 rfl rfl ?_ ?_ ?_ ?_
    case refine_1 => go_simp
    case refine_2 => go_simp
    case refine_3 => go_simp
    case refine_4 => exact ⟨_, rfl, ⟨none, 0, rfl, by simp, by simp, by simp⟩, hi_none _ _ _, by first | exact HW1.out | exact below3 HW1.out (Nat.le_succ _)⟩
/-- Whether something on the disk stands against saving. -/
def rfN (fs : List Fl) (dn : Bool) (i : Nat) : Nat := if lsE fs dn ≠ 0 then lsE fs dn else if i < lsI fs dn then 17 else 0
set_option maxHeartbeats 1000000 in
theorem refuse_any (dv : Value) (dn : Bool) (fu : Int) (fs : List Fl) (i t : Nat) (va : Option Addr) (vn vc : Nat) (d : ByteArray) (w : World) (hf : Files w w.heap.size dv fs) :
    Calls Try.prog 14 #[.agg #[dv, .bool dn, .int .i64 fu], .agg #[.int .u64 (i : Nat), .int .u64 (t : Nat), .slice va vn vc, .string d]] w fun e w' => e = .returned (.int .i64 (rfN fs dn i : Nat)) ∧ Below w.heap.size w w' := by
  have HF := Lib.hid hf
  have HL := Lib.hid (fun x hx => load_snap_any dv dn fu fs x hx)
  obtain ⟨a, c, rfl⟩ := files_slice hf
  unfold LoadS at HL
  have HR : Hid (rfN fs dn i = if lsE fs dn ≠ 0 then lsE fs dn else if i < lsI fs dn then 17 else 0) := rfl
  generalize rfN fs dn i = r at *
  generalize lsI fs dn = li at *
  generalize lsT fs dn = lt at *
  generalize lsM fs dn = lm at *
  generalize PM.bs (lsD fs dn) = ld at *
  generalize lsE fs dn = le at *
  clear hf
  generalize hn : fs.length = n at *
  have HB1 : Hid (∀ z, Below ((w.alloc (.cells #[.slice a n c, .bool dn, .int .i64 fu] 27)).alloc (.cells #[.int .u64 (i : Nat), .int .u64 (t : Nat), .slice va vn vc, .string d] 30)).heap.size ((w.alloc (.cells #[.slice a n c, .bool dn, .int .i64 fu] 27)).alloc (.cells #[.int .u64 (i : Nat), .int .u64 (t : Nat), .slice va vn vc, .string d] 30)) z → Hd.Bx4 z (w.heap.size + 1) (.int .u64 (i : Nat)) (.int .u64 (t : Nat)) (.slice va vn vc) (.string d) ∧ Below w.heap.size w z) := by
    intro z hb
    have h := Hd.Bx4.made (w.alloc (.cells #[.slice a n c, .bool dn, .int .i64 fu] 27)) (.int .u64 (i : Nat)) (.int .u64 (t : Nat)) (.slice va vn vc) (.string d) 30
    rw [World.size_alloc] at h
    exact ⟨h.below hb, (((Below.refl w.heap.size w).alloc (Nat.le_refl _) _).alloc (by simp) _).trans (hb.mono (by simp; omega))⟩
  have HLW := Lib.hid (HL.out _ ((HF.out.al (.cells #[.slice a n c, .bool dn, .int .i64 fu] 27)).al (.cells #[.int .u64 (i : Nat), .int .u64 (t : Nat), .slice va vn vc, .string d] 30)))
  clear HL hn
  by_cases h0 : le = 0
  · subst h0
    by_cases h1 : i < li
    · have hr : r = 17 := HR.out.trans (by rw [if_neg (by simp), if_pos h1])
      subst hr
      have h1' : (i : Int) < (li : Int) := by omega
      clear h1
      go_enter Try.func14, Try.ntmps14
      go_wp2_with (go_at_call 8; go_loud ((with_reducible refine HLW.out.mono ?_); rintro e w1 ⟨⟨v1, rfl, hown⟩, hb⟩; obtain ⟨a1, k1, rfl⟩ := hown.slice; obtain ⟨s0, s1, s2, s3⟩ := (HB1.out _ hb).1.cells; have HB := Lib.hid (HB1.out _ hb).2; have hlt := (HB1.out _ hb).1.lt; clear hb hown))
      go_wp2
      go_ret
      exact ⟨rfl, by first | exact HB.out | exact HB.out.alloc HB.out.size _ | exact (((((HB.out.alloc HB.out.size _).setCell HB.out.size _).setCell HB.out.size _).setCell HB.out.size _).setCell HB.out.size _)⟩
    · have hr : r = 0 := HR.out.trans (by rw [if_neg (by simp), if_neg h1])
      subst hr
      have h1' : ¬ (i : Int) < (li : Int) := by omega
      have h1'' : decide ((i : Int) < (li : Int)) = false := by simpa using h1'
      clear h1
      go_enter Try.func14, Try.ntmps14
      go_wp2_with (go_at_call 8; go_loud ((with_reducible refine HLW.out.mono ?_); rintro e w1 ⟨⟨v1, rfl, hown⟩, hb⟩; obtain ⟨a1, k1, rfl⟩ := hown.slice; obtain ⟨s0, s1, s2, s3⟩ := (HB1.out _ hb).1.cells; have HB := Lib.hid (HB1.out _ hb).2; have hlt := (HB1.out _ hb).1.lt; clear hb hown))
      go_wp2
      go_ret
      exact ⟨rfl, by first | exact HB.out | exact HB.out.alloc HB.out.size _ | exact (((((HB.out.alloc HB.out.size _).setCell HB.out.size _).setCell HB.out.size _).setCell HB.out.size _).setCell HB.out.size _)⟩
  · have hr : r = le := HR.out.trans (by rw [if_pos h0])
    subst hr
    have h0' : ¬ ((r : Int) = 0) := by omega
    have h0'' : ((r : Int) != 0) = true := by simp; omega
    clear h0
    go_enter Try.func14, Try.ntmps14
    go_wp2_with (go_at_call 8; go_loud ((with_reducible refine HLW.out.mono ?_); rintro e w1 ⟨⟨v1, rfl, hown⟩, hb⟩; obtain ⟨a1, k1, rfl⟩ := hown.slice; obtain ⟨s0, s1, s2, s3⟩ := (HB1.out _ hb).1.cells; have HB := Lib.hid (HB1.out _ hb).2; have hlt := (HB1.out _ hb).1.lt; clear hb hown))
    go_wp2
    go_ret
    exact ⟨rfl, by first | exact HB.out | exact HB.out.alloc HB.out.size _ | exact (((((HB.out.alloc HB.out.size _).setCell HB.out.size _).setCell HB.out.size _).setCell HB.out.size _).setCell HB.out.size _)⟩
/-- Where Save stands: the disk's box, the snapshot's, the result's. -/
structure Sv (w x : World) (v : Value) (dn : Bool) (fu : Int) (a0 a1 a2 a3 : Value) : Prop where
  dx : Dx w.heap.size x v dn fu
  sx : Hd.Bx4 x (w.heap.size + 1) a0 a1 a2 a3
  rx : Dx (w.heap.size + 1 + 1) x (.slice none 0 0) false 0
  bl : Below w.heap.size w x
  sz : w.heap.size + 3 ≤ x.heap.size
theorem Sv.on {w x y : World} {v : Value} {dn : Bool} {fu : Int} {a0 a1 a2 a3 : Value} (h : Sv w x v dn fu a0 a1 a2 a3) (hb : Below x.heap.size x y) : Sv w y v dn fu a0 a1 a2 a3 :=
  ⟨h.dx.keep hb (Nat.lt_of_lt_of_le (by omega) h.sz), h.sx.below hb, h.rx.keep hb (Nat.lt_of_lt_of_le (by omega) h.sz), h.bl.trans (hb.mono h.bl.size), Nat.le_trans h.sz hb.size⟩
theorem Sv.made (w : World) (v : Value) (dn : Bool) (fu : Int) (a0 a1 a2 a3 : Value) (T : TypeId) : Sv w (((w.alloc (.cells #[v, .bool dn, .int .i64 fu] 27)).alloc (.cells #[a0, a1, a2, a3] T)).alloc (.cells #[.slice none 0 0, .bool false, .int .i64 0] 27)) v dn fu a0 a1 a2 a3 := by
  refine ⟨((Dx.made w v dn fu).keep ((Below.refl _ _).alloc (Nat.le_refl _) _) (by simp)).keep ((Below.refl _ _).alloc (Nat.le_refl _) _) (by simp; omega), ?_, ?_, (((Below.refl _ _).alloc (Nat.le_refl _) _).alloc (by simp) _).alloc (by simp; omega) _, by simp⟩
  · have h := Hd.Bx4.made (w.alloc (.cells #[v, .bool dn, .int .i64 fu] 27)) a0 a1 a2 a3 T
    rw [World.size_alloc] at h
    exact h.below ((Below.refl _ _).alloc (Nat.le_refl _) _)
  · have h := Dx.made ((w.alloc (.cells #[v, .bool dn, .int .i64 fu] 27)).alloc (.cells #[a0, a1, a2, a3] T)) (.slice none 0 0) false 0
    simpa using h
/-- Why nothing is saved. -/
def svE (fs : List Fl) (dn : Bool) (i t : Nat) (ks : List Int) (d : ByteArray) : Nat := if Hd.chkS i t ks d = 0 then rfN fs dn i else 4
set_option maxRecDepth 100000 in
set_option maxHeartbeats 4000000 in
theorem save_no (dv : Value) (dn : Bool) (fu : Int) (fs : List Fl) (i t : Nat) (v : Value) (ks : List Int) (d : ByteArray) (w : World) (hf : Files w w.heap.size dv fs) (hk : Ints w w.heap.size v ks) (hi : i < 2 ^ 64) (ht : t < 2 ^ 64) (hno : svE fs dn i t ks d ≠ 0) :
    Calls Try.prog 6 #[.agg #[dv, .bool dn, .int .i64 fu], .agg #[.int .u64 (i : Nat), .int .u64 (t : Nat), v, .string d]] w (DoW w (.slice none 0 0) (nonO fs dn fu).fs (nonO fs dn fu).dn (nonO fs dn fu).fu (svE fs dn i t ks d)) := by
  have HF := Lib.hid hf
  have HI := Lib.hid hk
  obtain ⟨a, c, rfl⟩ := files_slice hf
  obtain ⟨va, vc, rfl, -⟩ := hk
  generalize hn : fs.length = n at *
  generalize hvn : ks.length = vn at *
  have hv0 : Sv w (((w.alloc (.cells #[.slice a n c, .bool dn, .int .i64 fu] 27)).alloc (.cells #[.int .u64 (i : Nat), .int .u64 (t : Nat), .slice va vn vc, .string d] 30)).alloc (.cells #[.slice none 0 0, .bool false, .int .i64 0] 27)) (.slice a n c) dn fu (.int .u64 (i : Nat)) (.int .u64 (t : Nat)) (.slice va vn vc) (.string d) := Sv.made w _ _ _ _ _ _ _ _
  have hen := Hd.snap_encode i t (.slice va vn vc) ks d _ (HI.out.on hv0.bl) hi ht
  have HV0 := Lib.hid hv0
  have HN0 := fun x hx => none_any (.slice a n c) dn fu fs x hx
  have HRF := Lib.hid (fun x hx => refuse_any (.slice a n c) dn fu fs i t va vn vc d x hx)
  generalize nonO fs dn fu = O at HN0 ⊢
  rcases O with ⟨fs2, dn2, fu2, r2⟩
  simp only at HN0 ⊢
  have HN := Lib.hid HN0
  clear HN0 hn hvn hf hv0
  unfold SomeD at HN
  unfold Hd.EncIs at hen
  unfold svE at hno ⊢
  generalize PM.bs (Hd.enS i t ks d) = en at *
  by_cases h0 : Hd.chkS i t ks d = 0
  · rw [if_pos h0] at hno ⊢
    rw [h0] at hen
    have HEN := Lib.hid hen
    clear hen h0
    generalize rfN fs dn i = r at *
    have hr : ¬ ((r : Int) = 0) := by omega
    have hr' : ((r : Int) != 0) = true := by simp; omega
    have hr'' : ((r : Int) == 0) = false := by simp; omega
    clear hno
    unfold DoW
    go_enter Try.func6, Try.ntmps6
    go_wp2_with (go_at_call 13; go_loud ((with_reducible refine HEN.out.mono ?_); rintro e w1 ⟨rfl, hb⟩; have HV1 := Lib.hid (HV0.out.on hb); obtain ⟨d0, d1, d2, d3, d4, d5⟩ := HV1.out.dx; obtain ⟨s0, s1, s2, s3⟩ := HV1.out.sx.cells; obtain ⟨x0, x1, x2, x3, x4, x5⟩ := HV1.out.rx; clear hb))
    go_wp2_with (go_at_call 14; go_loud ((with_reducible refine (HRF.out _ ?_).mono ?_); exact HF.out.on HV1.out.bl HV1.out.bl.size; rintro e w2 ⟨rfl, hb⟩; have HV2 := Lib.hid (HV1.out.on hb); clear hb; clear d0 d1 d2 d3 d4 d5 s0 s1 s2 s3 x0 x1 x2 x3 x4 x5; obtain ⟨d0, d1, d2, d3, d4, d5⟩ := HV2.out.dx; obtain ⟨s0, s1, s2, s3⟩ := HV2.out.sx.cells; obtain ⟨x0, x1, x2, x3, x4, x5⟩ := HV2.out.rx))
    go_wp2_with (go_at_call 15; go_loud (refine (HN.out _ (HF.out.on HV2.out.bl HV2.out.bl.size)).mono ?_; rintro e w9 ⟨v2, rfl, hf2, hh2, hb⟩; obtain ⟨a2, c2, rfl⟩ := files_slice hf2; have HV9 := Lib.hid (HV2.out.on hb); have HF2 := Lib.hid hf2; have HH2 := Lib.hid (hh2.le (B := w.heap.size + 3) (HV2.out.sz)); clear hb hf2 hh2; clear d0 d1 d2 d3 d4 d5 s0 s1 s2 s3 x0 x1 x2 x3 x4 x5; obtain ⟨d0, d1, d2, d3, d4, d5⟩ := HV9.out.dx; obtain ⟨s0, s1, s2, s3⟩ := HV9.out.sx.cells; obtain ⟨x0, x1, x2, x3, x4, x5⟩ := HV9.out.rx))
    go_wp2
    refine bodyPost_disk rfl (w.heap.size + 1 + 1) (.slice a2 fs2.length c2) dn2 fu2 rfl rfl ?_ ?_ ?_ ?_
    case refine_1 => go_simp
    case refine_2 => go_simp
    case refine_3 => go_simp
    case refine_4 => exact ⟨_, rfl, HF2.out.put3 HH2.out (by omega), fun B hB _ => HH2.out.le (by omega), below3 HV9.out.bl (by omega)⟩
  · have hc4 : Hd.chkS i t ks d = 4 := by
      have h := h0
      unfold Hd.chkS at h ⊢
      split
      · rename_i h1; rw [if_pos h1] at h; exact absurd rfl h
      · rename_i h1
        rw [if_neg h1] at h
        split
        · rename_i h2
          rw [if_pos h2] at h
          split
          · rfl
          · rename_i h3; rw [if_neg h3] at h; exact absurd rfl h
        · rfl
    rw [if_neg h0] at hno ⊢
    rw [hc4] at hen
    have HEN := Lib.hid hen
    clear hen h0 hc4 hno
    unfold DoW
    go_enter Try.func6, Try.ntmps6
    go_wp2_with (go_at_call 13; go_loud ((with_reducible refine HEN.out.mono ?_); rintro e w1 ⟨rfl, hb⟩; have HV1 := Lib.hid (HV0.out.on hb); obtain ⟨d0, d1, d2, d3, d4, d5⟩ := HV1.out.dx; obtain ⟨s0, s1, s2, s3⟩ := HV1.out.sx.cells; obtain ⟨x0, x1, x2, x3, x4, x5⟩ := HV1.out.rx; clear hb))
    go_wp2_with (go_at_call 15; go_loud (refine (HN.out _ (HF.out.on HV1.out.bl HV1.out.bl.size)).mono ?_; rintro e w9 ⟨v2, rfl, hf2, hh2, hb⟩; obtain ⟨a2, c2, rfl⟩ := files_slice hf2; have HV9 := Lib.hid (HV1.out.on hb); have HF2 := Lib.hid hf2; have HH2 := Lib.hid (hh2.le (B := w.heap.size + 3) (HV1.out.sz)); clear hb hf2 hh2; clear d0 d1 d2 d3 d4 d5 s0 s1 s2 s3 x0 x1 x2 x3 x4 x5; obtain ⟨d0, d1, d2, d3, d4, d5⟩ := HV9.out.dx; obtain ⟨s0, s1, s2, s3⟩ := HV9.out.sx.cells; obtain ⟨x0, x1, x2, x3, x4, x5⟩ := HV9.out.rx))
    go_wp2
    refine bodyPost_disk rfl (w.heap.size + 1 + 1) (.slice a2 fs2.length c2) dn2 fu2 rfl rfl ?_ ?_ ?_ ?_
    case refine_1 => go_simp
    case refine_2 => go_simp
    case refine_3 => go_simp
    case refine_4 => exact ⟨_, rfl, HF2.out.put3 HH2.out (by omega), fun B hB _ => HH2.out.le (by omega), below3 HV9.out.bl (by omega)⟩
set_option maxRecDepth 100000 in
set_option maxHeartbeats 4000000 in
theorem save_ok (dv : Value) (dn : Bool) (fu : Int) (fs : List Fl) (i t : Nat) (v : Value) (ks : List Int) (d : ByteArray) (O : Out) (w : World) (hf : Files w w.heap.size dv fs) (hk : Ints w w.heap.size v ks) (hi : i < 2 ^ 64) (ht : t < 2 ^ 64) (h0 : Hd.chkS i t ks d = 0) (hr0 : rfN fs dn i = 0) (hR : Rs i t (ks.map Int.toNat) d)
    (HD : ∀ (x : World) (g pF pT pC : Nat), Files x x.heap.size dv fs → Rw x g pF pT pC nSn nSt (snC i t (ks.map Int.toNat) d) → Calls Try.prog 17 #[.agg #[dv, .bool dn, .int .i64 fu], .slice (some ⟨g, 0, none⟩) 4 4] x (DoW x (.slice none 0 0) O.fs O.dn O.fu O.r)) :
    Calls Try.prog 6 #[.agg #[dv, .bool dn, .int .i64 fu], .agg #[.int .u64 (i : Nat), .int .u64 (t : Nat), v, .string d]] w (DoW w (.slice none 0 0) O.fs O.dn O.fu O.r) := by
  have HF := Lib.hid hf
  have HI := Lib.hid hk
  obtain ⟨a, c, rfl⟩ := files_slice hf
  obtain ⟨va, vc, rfl, -⟩ := hk
  generalize hn : fs.length = n at *
  generalize hvn : ks.length = vn at *
  have hv0 : Sv w (((w.alloc (.cells #[.slice a n c, .bool dn, .int .i64 fu] 27)).alloc (.cells #[.int .u64 (i : Nat), .int .u64 (t : Nat), .slice va vn vc, .string d] 30)).alloc (.cells #[.slice none 0 0, .bool false, .int .i64 0] 27)) (.slice a n c) dn fu (.int .u64 (i : Nat)) (.int .u64 (t : Nat)) (.slice va vn vc) (.string d) := Sv.made w _ _ _ _ _ _ _ _
  have hen := Hd.snap_encode i t (.slice va vn vc) ks d _ (HI.out.on hv0.bl) hi ht
  have HV0 := Lib.hid hv0
  have HRF := fun x hx => refuse_any (.slice a n c) dn fu fs i t va vn vc d x hx
  rw [hr0] at HRF
  have HRF := Lib.hid HRF
  unfold Hd.EncIs at hen
  have e1 : Hd.enS i t ks d = Hd.snB i t (ks.map Int.toNat) d := by unfold Hd.enS; rw [if_pos h0]
  rw [e1, h0] at hen
  have hsl := snB_len hR
  have hfr := fun x => PackFrame.frame_own (PM.bs (Hd.snB i t (ks.map Int.toNat) d)) x (by rw [PM.bs_size]; unfold maxLen; omega)
  unfold PackFrame.Framed at hfr
  have e2 : PackFrame.frS (PM.bs (Hd.snB i t (ks.map Int.toNat) d)) = snC i t (ks.map Int.toNat) d := by unfold PackFrame.frS snC; rw [PM.bs_size, if_neg (by omega), PM.bs_data]
  have e3 : PackFrame.frW (PM.bs (Hd.snB i t (ks.map Int.toNat) d)) = 0 := by unfold PackFrame.frW; rw [PM.bs_size, if_neg (by omega)]
  rw [e2, e3] at hfr
  have hrw := fun x => rewrite_any nSn nSt (snC i t (ks.map Int.toNat) d) x
  rcases O with ⟨fs2, dn2, fu2, r2⟩
  simp only at HD ⊢
  generalize PM.bs (Hd.snB i t (ks.map Int.toNat) d) = en at *
  generalize snC i t (ks.map Int.toNat) d = da at *
  have HEN := Lib.hid hen
  have HFR := Lib.hid hfr
  have HRE := Lib.hid hrw
  have HDO := Lib.hid HD
  unfold nSn nSt at HRE HDO
  clear hn hvn hf hv0 hen hfr hrw HD e1 e2 e3 hsl h0 hr0
  unfold DoW
  go_enter Try.func6, Try.ntmps6
  go_wp2_with (go_at_call 13; go_loud ((with_reducible refine HEN.out.mono ?_); rintro e w1 ⟨rfl, hb⟩; have HV1 := Lib.hid (HV0.out.on hb); obtain ⟨d0, d1, d2, d3, d4, d5⟩ := HV1.out.dx; obtain ⟨s0, s1, s2, s3⟩ := HV1.out.sx.cells; obtain ⟨x0, x1, x2, x3, x4, x5⟩ := HV1.out.rx; clear hb))
  go_wp2_with (go_at_call 14; go_loud ((with_reducible refine (HRF.out _ ?_).mono ?_); exact HF.out.on HV1.out.bl HV1.out.bl.size; rintro e w2 ⟨rfl, hb⟩; have HV2 := Lib.hid (HV1.out.on hb); clear hb; clear d0 d1 d2 d3 d4 d5 s0 s1 s2 s3 x0 x1 x2 x3 x4 x5; obtain ⟨d0, d1, d2, d3, d4, d5⟩ := HV2.out.dx; obtain ⟨s0, s1, s2, s3⟩ := HV2.out.sx.cells; obtain ⟨x0, x1, x2, x3, x4, x5⟩ := HV2.out.rx))
  go_wp2_with (go_at_call 16; go_loud ((with_reducible refine (HFR.out _).mono ?_); rintro e w3 ⟨rfl, hb⟩; have HV3 := Lib.hid (HV2.out.on hb); clear hb; clear d0 d1 d2 d3 d4 d5 s0 s1 s2 s3 x0 x1 x2 x3 x4 x5))
  have HW3 : Hid (Below w3.heap.size w3 w3) := Below.refl _ _
  have hz3 := HV3.out.sz
  have KS : Hid (∀ z, Below w3.heap.size w3 z → (z.cell? ⟨w.heap.size, 0, none⟩ = some (.slice a n c) ∧ z.cell? ⟨w.heap.size, 1, none⟩ = some (.bool dn) ∧ z.cell? ⟨w.heap.size, 2, none⟩ = some (.int .i64 fu) ∧ Hid (Below w.heap.size w z ∧ w.heap.size + 3 ≤ z.heap.size))) := by
    intro z hb
    have hv := HV3.out.on hb
    obtain ⟨d0, d1, d2, -, -, -⟩ := hv.dx
    exact ⟨d0, d1, d2, hv.bl, hv.sz⟩
  have KB : Hid (∀ z, (z.cell? ⟨w.heap.size, 0, none⟩ = some (.slice a n c) ∧ z.cell? ⟨w.heap.size, 1, none⟩ = some (.bool dn) ∧ z.cell? ⟨w.heap.size, 2, none⟩ = some (.int .i64 fu) ∧ Hid (Below w.heap.size w z ∧ w.heap.size + 3 ≤ z.heap.size)) → Below w.heap.size w z ∧ w.heap.size + 3 ≤ z.heap.size) := fun z h => h.2.2.2.out
  have KR : Hid (∀ z, Hid (Below w3.heap.size w3 z) → Calls Try.prog 18 #[.string ⟨#[115, 110, 97, 112]⟩, .string ⟨#[115, 110, 97, 112, 46, 116, 109, 112]⟩, .string da] z fun e z' => ∃ g pF pT pC, e = .returned (.slice (some ⟨g, 0, none⟩) 4 4) ∧ Hid (Rw z' g pF pT pC ⟨#[115, 110, 97, 112]⟩ ⟨#[115, 110, 97, 112, 46, 116, 109, 112]⟩ da) ∧ Hid (Below w3.heap.size w3 z') ∧ (z'.cell? ⟨w.heap.size, 0, none⟩ = some (.slice a n c) ∧ z'.cell? ⟨w.heap.size, 1, none⟩ = some (.bool dn) ∧ z'.cell? ⟨w.heap.size, 2, none⟩ = some (.int .i64 fu) ∧ Hid (Below w.heap.size w z' ∧ w.heap.size + 3 ≤ z'.heap.size))) := by
    intro z h
    refine (HRE.out z).mono ?_
    rintro e z' ⟨g, pF, pT, pC, rfl, hw, hb⟩
    have hb2 := h.out.trans (hb.mono h.out.size)
    exact ⟨g, pF, pT, pC, rfl, hw, hb2, KS.out _ hb2⟩
  have KO : Hid (∀ (g pF pT pC : Nat) z, Hid (Below w3.heap.size w3 z) → Hid (Rw z g pF pT pC ⟨#[115, 110, 97, 112]⟩ ⟨#[115, 110, 97, 112, 46, 116, 109, 112]⟩ da) → Calls Try.prog 17 #[.agg #[.slice a n c, .bool dn, .int .i64 fu], .slice (some ⟨g, 0, none⟩) 4 4] z fun e z' => ∃ (a5 : Option Addr) (c5 : Nat), e = .returned (.tuple #[.agg #[.slice a5 fs2.length c5, .bool dn2, .int .i64 fu2], .int .i64 (r2 : Nat)]) ∧ Hid (Files z' z'.heap.size (.slice a5 fs2.length c5) fs2 ∧ Hi (w.heap.size + 3) (.slice a5 fs2.length c5)) ∧ (z'.cell? ⟨w.heap.size + 1 + 1, 0, none⟩ = some (.slice none 0 0) ∧ z'.cell? ⟨w.heap.size + 1 + 1, 1, none⟩ = some (.bool false) ∧ z'.cell? ⟨w.heap.size + 1 + 1, 2, none⟩ = some (.int .i64 0) ∧ z'.frozen? ⟨w.heap.size + 1 + 1, 0, none⟩ = false ∧ z'.frozen? ⟨w.heap.size + 1 + 1, 1, none⟩ = false ∧ z'.frozen? ⟨w.heap.size + 1 + 1, 2, none⟩ = false) ∧ (z'.cell? ⟨w.heap.size, 0, none⟩ = some (.slice a n c) ∧ z'.cell? ⟨w.heap.size, 1, none⟩ = some (.bool dn) ∧ z'.cell? ⟨w.heap.size, 2, none⟩ = some (.int .i64 fu) ∧ Hid (Below w.heap.size w z' ∧ w.heap.size + 3 ≤ z'.heap.size))) := by
    intro g pF pT pC z h hr
    have hv := HV3.out.on h.out
    refine (HDO.out z g pF pT pC (HF.out.on hv.bl hv.bl.size) hr.out).mono ?_
    rintro e z' ⟨v5, rfl, hf5, hh5, hb⟩
    obtain ⟨a5, c5, rfl⟩ := files_slice hf5
    have hb2 := h.out.trans (hb.mono h.out.size)
    have hv' := HV3.out.on hb2
    obtain ⟨x0, x1, x2, x3, x4, x5⟩ := hv'.rx
    exact ⟨a5, c5, rfl, ⟨hf5, hh5 _ hv.sz (hi_none _ _ _)⟩, ⟨x0, x1, x2, x3, x4, x5⟩, KS.out _ hb2⟩
  have LT : Hid (∀ z u0 u1 u2, (z.cell? ⟨w.heap.size, 0, none⟩ = some (.slice a n c) ∧ z.cell? ⟨w.heap.size, 1, none⟩ = some (.bool dn) ∧ z.cell? ⟨w.heap.size, 2, none⟩ = some (.int .i64 fu) ∧ Hid (Below w.heap.size w z ∧ w.heap.size + 3 ≤ z.heap.size)) → ((((z.setCell ⟨w.heap.size + 1 + 1, 0, none⟩ u0).setCell ⟨w.heap.size + 1 + 1, 1, none⟩ u1).setCell ⟨w.heap.size + 1 + 1, 2, none⟩ u2).cell? ⟨w.heap.size, 0, none⟩ = some (.slice a n c) ∧ (((z.setCell ⟨w.heap.size + 1 + 1, 0, none⟩ u0).setCell ⟨w.heap.size + 1 + 1, 1, none⟩ u1).setCell ⟨w.heap.size + 1 + 1, 2, none⟩ u2).cell? ⟨w.heap.size, 1, none⟩ = some (.bool dn) ∧ (((z.setCell ⟨w.heap.size + 1 + 1, 0, none⟩ u0).setCell ⟨w.heap.size + 1 + 1, 1, none⟩ u1).setCell ⟨w.heap.size + 1 + 1, 2, none⟩ u2).cell? ⟨w.heap.size, 2, none⟩ = some (.int .i64 fu) ∧ Hid (Below w.heap.size w (((z.setCell ⟨w.heap.size + 1 + 1, 0, none⟩ u0).setCell ⟨w.heap.size + 1 + 1, 1, none⟩ u1).setCell ⟨w.heap.size + 1 + 1, 2, none⟩ u2) ∧ w.heap.size + 3 ≤ (((z.setCell ⟨w.heap.size + 1 + 1, 0, none⟩ u0).setCell ⟨w.heap.size + 1 + 1, 1, none⟩ u1).setCell ⟨w.heap.size + 1 + 1, 2, none⟩ u2).heap.size))) := by
    intro z u0 u1 u2 h
    obtain ⟨a0, a1, a2, hS⟩ := h
    have k : ∀ b i, b < w.heap.size + 2 → (((z.setCell ⟨w.heap.size + 1 + 1, 0, none⟩ u0).setCell ⟨w.heap.size + 1 + 1, 1, none⟩ u1).setCell ⟨w.heap.size + 1 + 1, 2, none⟩ u2).cell? ⟨b, i, none⟩ = z.cell? ⟨b, i, none⟩ := by
      intro b i hb
      have hne : ∀ j, (⟨w.heap.size + 1 + 1, j, none⟩ : Addr) ≠ ⟨b, i, none⟩ := fun j e => by injection e with e1; omega
      rw [World.cell?_setCell_other _ _ _ _ (hne 2), World.cell?_setCell_other _ _ _ _ (hne 1), World.cell?_setCell_other _ _ _ _ (hne 0)]
    rw [k _ _ (by omega), k _ _ (by omega), k _ _ (by omega)]
    exact ⟨a0, a1, a2, ⟨below3 hS.out.1 (by omega), by have := hS.out.2; simpa using this⟩⟩
  have KW : Hid (Below w3.heap.size w3 w3.drew) := (Below.refl _ _).drew
  have KD : Hid (w3.drew.cell? ⟨w.heap.size, 0, none⟩ = some (.slice a n c) ∧ w3.drew.cell? ⟨w.heap.size, 1, none⟩ = some (.bool dn) ∧ w3.drew.cell? ⟨w.heap.size, 2, none⟩ = some (.int .i64 fu) ∧ Hid (Below w.heap.size w w3.drew ∧ w.heap.size + 3 ≤ w3.drew.heap.size)) := KS.out _ KW.out
  clear HRE HDO HFR HEN HRF HV0 HV1 HV2
  go_wp2
  go_region_held3 (fun z => (z.cell? ⟨w.heap.size, 0, none⟩ = some (.slice a n c) ∧ z.cell? ⟨w.heap.size, 1, none⟩ = some (.bool dn) ∧ z.cell? ⟨w.heap.size, 2, none⟩ = some (.int .i64 fu) ∧ Hid (Below w.heap.size w z ∧ w.heap.size + 3 ≤ z.heap.size))) (first | assumption | exact KD.out | exact LT.out _ _ _ _ (by assumption))
    (first
      | (go_at_call 18; go_loud ((with_reducible refine (KR.out _ ?_).mono ?_); assumption; rintro e w8 ⟨g, pF, pT, pC, rfl, hRw, hW8, hS⟩))
      | (go_at_call 17; go_loud ((with_reducible refine (KO.out _ _ _ _ _ ?_ hRw).mono ?_); assumption; rintro e w9 ⟨a5, c5, rfl, hF5, ⟨x0, x1, x2, x3, x4, x5⟩, hS⟩)))
  all_goals
    go_wp2
    refine bodyPost_disk rfl (w.heap.size + 1 + 1) (.slice a5 fs2.length c5) dn2 fu2 rfl rfl ?_ ?_ ?_ ?_
    case refine_1 => go_simp
    case refine_2 => go_simp
    case refine_3 => go_simp
    case refine_4 => exact ⟨_, rfl, hF5.out.1.put3 hF5.out.2 (by omega), fun B hB _ => hF5.out.2.le (by omega), below3 (KB.out w9 (by assumption)).1 (by omega)⟩
end Dk
end Go.Proofs.Ytjgdmdgiicpemaa

/- WHETHER TWO SNAPSHOTS ARE ONE: gafferref03.SameInts, gafferref05.Same. -/
namespace Go.Proofs.Ytjgdmdgiicpemaa
open Go.RowKit Go.Lib Go.Sort
namespace Dk
theorem drop_ne (ks js : List Int) (h : ks.length = js.length) (k : Nat) (hk : k < ks.length) (hj : k < js.length) (hne : ks[k] ≠ js[k]) : ¬ ks = js := fun e => by subst e; exact hne rfl
theorem take_all (ks js : List Int) (h : ks.length = js.length) (ht : ks.take ks.length = js.take ks.length) : ks = js := by
  rw [List.take_length, h, List.take_length] at ht
  exact ht
def smB (i t : Nat) (ks : List Int) (d : ByteArray) (i2 t2 : Nat) (js : List Int) (d2 : ByteArray) : Bool := decide (i = i2) && decide (t = t2) && decide (d = d2) && decide (ks = js)
end Dk
end Go.Proofs.Ytjgdmdgiicpemaa

/- SAVING a snapshot at any right disk; with no fuse; at no files. -/
namespace Go.Proofs.Ytjgdmdgiicpemaa
open Go.RowKit Go.Lib Go.Sort
namespace Dk
theorem rs_of {i t : Nat} {ks : List Int} {d : ByteArray} (hi : i < 2 ^ 64) (ht : t < 2 ^ 64) (hc : Hd.chkS i t ks d = 0) : Rs i t (ks.map Int.toNat) d :=
  ⟨hi, ht, by rw [Hd.toNat_map ks (Hd.chk_ms i t ks d hc).1]; exact hc⟩
/-- Save at a right disk that is up. -/
theorem save_any (S : Nat) (hS : 70000 ≤ S) (hS2 : S ≤ 4611686018427387904) (dv : Value) (fs : List Fl) (fu : Int) (h0 : chkN fs = 0) (hs : ∀ f ∈ fs, f.da.size ≤ S) (hlo : -9223372036854775808 ≤ fu) (hhi : fu ≤ 9223372036854775807)
    (i t : Nat) (v : Value) (ks : List Int) (d : ByteArray) (hi : i < 2 ^ 64) (ht : t < 2 ^ 64) (hc : Hd.chkS i t ks d = 0) (hr0 : rfN fs false i = 0) (w : World) (hf : Files w w.heap.size dv fs) (hk : Ints w w.heap.size v ks) :
    Calls Try.prog 6 #[.agg #[dv, .bool false, .int .i64 fu], .agg #[.int .u64 (i : Nat), .int .u64 (t : Nat), v, .string d]] w (DoW w (.slice none 0 0) (seqO nSn nSt (snC i t (ks.map Int.toNat) d) fs false fu 4).fs (seqO nSn nSt (snC i t (ks.map Int.toNat) d) fs false fu 4).dn (seqO nSn nSt (snC i t (ks.map Int.toNat) d) fs false fu 4).fu (seqO nSn nSt (snC i t (ks.map Int.toNat) d) fs false fu 4).r) := by
  have hR := rs_of hi ht hc
  have hda := snC_size hR
  have hso := save_ok dv false fu fs i t v ks d (seqO nSn nSt (snC i t (ks.map Int.toNat) d) fs false fu 4) w hf hk hi ht hc hr0 hR
  generalize snC i t (ks.map Int.toNat) d = da at hda hso ⊢
  obtain ⟨h1, h2, h3, h4⟩ := sq_all S hS fs da hda fu h0 hs hlo hhi
  have hi0 : Inv da.size ⟨fs, false, fu, 0⟩ := ⟨hlo, hhi, small_fine hS2 h0 hs, by have := (chk_fine _ h0).1; show fs.length ≤ _; omega, fun f hf => by have := hs f hf; omega⟩
  have hi2 : ∀ k, k ≤ 4 → Inv da.size (seqO nSn nSt da fs false fu k) := by
    intro k hk
    have h5 : k = 0 ∨ k = 1 ∨ k = 2 ∨ k = 3 ∨ k = 4 := by omega
    rcases h5 with rfl | rfl | rfl | rfl | rfl
    · exact hi0
    · exact h1.inv hS2 hda
    · exact h2.inv hS2 hda
    · exact h3.inv hS2 hda
    · exact h4.inv hS2 hda
  have hA := all4 nSn nSt da fs false fu (by omega) hi2
  refine hso (fun x g pF pT pC hx hr => ?_)
  exact do_rewrite nSn nSt da (seqO nSn nSt da fs false fu) hA rfl (fun k hk hr => by
    obtain ⟨j, e⟩ : ∃ j, 4 = k + j := ⟨4 - k, by omega⟩
    rw [show seqO nSn nSt da fs false fu 4 = seqO nSn nSt da fs false fu (k + j) by rw [← e]]
    exact seq_stop nSn nSt da fs false fu k hr j) (by show fs.length ≤ 4096; exact (chk_fine _ h0).1) hi0.fine dv g pF pT pC x hx hr
theorem rs_ne (fs : List Fl) (nm : ByteArray) : rsN fs nm ≠ 8 := by unfold rsN; split <;> omega
theorem ra_ne (n : Nat) (nm : ByteArray) (b : Bool) : raN n nm b ≠ 8 := by unfold raN; repeat (first | omega | split)
theorem rw_ne (fs : List Fl) (a b : ByteArray) : rwN fs a b ≠ 8 := by unfold rwN; repeat (first | omega | split)
theorem outO_m1 {fs ch : List Fl} {r : Nat} {ad : Bool} (h : chkN fs = 0) : outO fs false (-1) r ch ad = if r = 0 then ⟨ch, false, -1, 0⟩ else ⟨fs, false, -1, r⟩ := by
  rw [outO_up h]
  split
  · rw [if_neg (by omega), if_neg (by omega)]
  · rfl
/-- With no fuse no change is the power's. -/
structure M1 (n : Nat) (o : Out) : Prop where
  fu : o.fu = -1
  dn : o.dn = false
  r8 : o.r ≠ 8
  ln : o.fs.length ≤ n
theorem m1_out {fs ch : List Fl} {r n : Nat} {ad : Bool} (h : chkN fs = 0) (hr : r ≠ 8) (h1 : fs.length ≤ n) (h2 : r = 0 → ch.length ≤ n) : M1 n (outO fs false (-1) r ch ad) := by
  rw [outO_m1 h]
  split
  · exact ⟨rfl, rfl, by simp, h2 (by assumption)⟩
  · exact ⟨rfl, rfl, hr, h1⟩
theorem M1.up {n m : Nat} {o : Out} (h : M1 n o) (hn : n ≤ m) : M1 m o := ⟨h.fu, h.dn, h.r8, Nat.le_trans h.ln hn⟩
theorem m1_all (S : Nat) (hS : 70000 ≤ S) (fs : List Fl) (da : ByteArray) (hda : da.size ≤ 70000) (h0 : chkN fs = 0) (hs : ∀ f ∈ fs, f.da.size ≤ S) : M1 (fs.length + 1) (seqO nSn nSt da fs false (-1) 4) := by
  obtain ⟨q1, q2, q3, q4⟩ := sq_all S hS fs da hda (-1) h0 hs (by omega) (by omega)
  have h1 : M1 fs.length (seqO nSn nSt da fs false (-1) 1) := by
    rw [seq_succ]
    show M1 fs.length (thenO ⟨fs, false, -1, 0⟩ (stp nSn nSt da 0))
    rw [thenO_ok rfl]
    show M1 fs.length (rw1 nSt fs false (-1))
    unfold rw1
    split
    · exact ⟨rfl, rfl, by simp, Nat.le_refl _⟩
    · unfold drpO
      exact m1_out h0 (rs_ne _ _) (Nat.le_refl _) (fun _ => List.length_eraseIdx_le fs (idxN fs nSt))
  have h2 : M1 (fs.length + 1) (seqO nSn nSt da fs false (-1) 2) := by
    rw [seq_succ]
    by_cases hr : (seqO nSn nSt da fs false (-1) 1).r = 0
    · rw [thenO_ok hr]
      generalize seqO nSn nSt da fs false (-1) 1 = o at *
      show M1 (fs.length + 1) (addO o.fs o.dn o.fu nSt da)
      rw [h1.dn, h1.fu]
      unfold addO
      have hok := (chk_fine _ q1.chk).2
      refine m1_out q1.chk (ra_ne _ _ _) (by have := h1.ln; omega) (fun _ => ?_)
      rw [put_len _ hok]
      have := h1.ln
      split <;> omega
    · rw [thenO_bad hr]; exact h1.up (by omega)
  have h3 : M1 (fs.length + 1) (seqO nSn nSt da fs false (-1) 3) := by
    rw [seq_succ]
    by_cases hr : (seqO nSn nSt da fs false (-1) 2).r = 0
    · rw [thenO_ok hr]
      generalize seqO nSn nSt da fs false (-1) 2 = o at *
      show M1 (fs.length + 1) (synO o.fs o.dn o.fu nSt)
      rw [h2.dn, h2.fu]
      unfold synO
      have hok := (chk_fine _ q2.chk).2
      have hl := q2.s2 rfl hr
      have hn := look_lt hl
      have hF : synF o.fs nSt = ⟨nSt, da, (da.size : Nat)⟩ := by unfold synF; rw [hl]
      refine m1_out q2.chk (rs_ne _ _) h2.ln (fun _ => ?_)
      rw [hF, put_len _ hok]
      have := h2.ln
      rw [show (if idxN o.fs (⟨nSt, da, (da.size : Nat)⟩ : Fl).nm < o.fs.length then o.fs.length else o.fs.length + 1) = o.fs.length from if_pos hn]
      exact this
    · rw [thenO_bad hr]; exact h2
  rw [seq_succ]
  by_cases hr : (seqO nSn nSt da fs false (-1) 3).r = 0
  · rw [thenO_ok hr]
    generalize seqO nSn nSt da fs false (-1) 3 = o at *
    show M1 (fs.length + 1) (swpO o.fs o.dn o.fu nSt nSn)
    rw [h3.dn, h3.fu]
    unfold swpO
    have hok := (chk_fine _ q3.chk).2
    have hl := q3.s3 rfl hr
    have hn := look_lt hl
    have hel : (o.fs.eraseIdx (idxN o.fs nSt)).length = o.fs.length - 1 := List.length_eraseIdx_of_lt hn
    refine m1_out q3.chk (rw_ne _ _ _) h3.ln (fun _ => ?_)
    rw [put_len _ (del_ok hok _)]
    have := h3.ln
    split <;> omega
  · rw [thenO_bad hr]; exact h3
/-- What a save with no fuse comes to, where there is room. -/
theorem m1_save {S : Nat} (hS : 70000 ≤ S) {fs : List Fl} {i t : Nat} {ms : List Nat} {d : ByteArray} (h : Rs i t ms d) (h0 : chkN fs = 0) (hs : ∀ f ∈ fs, f.da.size ≤ S) (hl : fs.length < 4096) (o : Out) (ho : o = seqO nSn nSt (snC i t ms d) fs false (-1) 4) :
    o.r = 0 ∧ o.dn = false ∧ o.fu = -1 ∧ chkN o.fs = 0 ∧ (∀ f ∈ o.fs, f.da.size ≤ S) ∧ o.fs.length ≤ fs.length + 1 ∧ look o.fs nSn = some ⟨nSn, snC i t ms d, ((snC i t ms d).size : Nat)⟩ := by
  have hda := snC_size h
  have hq := (sq_all S hS fs (snC i t ms d) hda (-1) h0 hs (by omega) (by omega)).2.2.2
  have hm := m1_all S hS fs (snC i t ms d) hda h0 hs
  rw [← ho] at hq hm
  have hr : o.r = 0 := by
    have h8 := hm.r8
    rcases hq.why with e | e | e
    · exact e
    · exact absurd e h8
    · omega
  exact ⟨hr, hm.dn, hm.fu, hq.chk, hq.small, hm.ln, hq.s4 rfl hr⟩
end Dk
end Go.Proofs.Ytjgdmdgiicpemaa

/- lives of layer 5 is true. -/
namespace Go.Proofs.Ytjgdmdgiicpemaa
open Go.RowKit Go.Lib Go.Sort
namespace Dk
open Hd (OwnI Bx4)
def xS : ByteArray := ⟨#[120]⟩
theorem chk_x : Hd.chkS 16 2 [1, 3] xS = 0 := by rfl
theorem chk_4 : Hd.chkS 4 0 [1] ⟨#[]⟩ = 0 := by rfl
theorem rs_x : Rs 16 2 [1, 3] xS := ⟨by omega, by omega, chk_x⟩
theorem lives_load0 (w : World) : Calls Try.prog 8 #[.agg #[.slice none 0 0, .bool false, .int .i64 (-1)]] w fun e w' => ∃ a c, e = .returned (.tuple #[.agg #[.int .u64 0, .int .u64 0, .slice a 0 c, .string ⟨#[]⟩], .int .i64 0]) ∧ Below w.heap.size w w' := by
  have h := load_snap_any (.slice none 0 0) false (-1) [] w (nil_files w)
  obtain ⟨e1, e2, e3, e4, e5⟩ := ls_none (fs := []) chk_nil rfl
  unfold LoadS at h
  rw [e1, e2, e3, e4, e5] at h
  refine h.mono ?_
  rintro e w' ⟨⟨v', rfl, ho⟩, hb⟩
  obtain ⟨a, c, rfl⟩ := ho.slice
  exact ⟨a, c, rfl, hb⟩
theorem lives_save : ∃ fs : List Fl, chkN fs = 0 ∧ Fine fs ∧ look fs nSn = some ⟨nSn, snC 16 2 [1, 3] xS, ((snC 16 2 [1, 3] xS).size : Nat)⟩ ∧
    ∀ (w : World) (v : Value), Ints w w.heap.size v [1, 3] → Calls Try.prog 6 #[.agg #[.slice none 0 0, .bool false, .int .i64 (-1)], .agg #[.int .u64 16, .int .u64 2, v, .string xS]] w (DoW w (.slice none 0 0) fs false (-1) 0) := by
  obtain ⟨h1, h2, h3, h4, h5, h6, h7⟩ := m1_save (S := 70000) (Nat.le_refl _) rs_x (fs := []) chk_nil (by simp) (by simp) _ rfl
  have hr : rfN [] false 16 = 0 := by
    obtain ⟨e1, e2, e3, e4, e5⟩ := ls_none (fs := []) chk_nil rfl
    unfold rfN
    rw [e1, e5]; rfl
  have hs := fun (w : World) (v : Value) (hk : Ints w w.heap.size v [1, 3]) => save_any 70000 (Nat.le_refl _) (by omega) (.slice none 0 0) [] (-1) chk_nil (by simp) (by omega) (by omega) 16 2 v [1, 3] xS (by omega) (by omega) chk_x hr w (nil_files w) hk
  have e : ([1, 3] : List Int).map Int.toNat = [1, 3] := rfl
  rw [e] at hs
  generalize seqO nSn nSt (snC 16 2 [1, 3] xS) [] false (-1) 4 = o at *
  rcases o with ⟨fs, dn, fu, r⟩
  simp only at *
  subst h1 h2 h3
  exact ⟨fs, h4, small_fine (S := 70000) (by omega) h4 h5, h7, hs⟩
theorem lives_load (fs : List Fl) (h0 : chkN fs = 0) (hl : look fs nSn = some ⟨nSn, snC 16 2 [1, 3] xS, ((snC 16 2 [1, 3] xS).size : Nat)⟩) (dv : Value) (w : World) (hf : Files w w.heap.size dv fs) :
    Calls Try.prog 8 #[.agg #[dv, .bool false, .int .i64 (-1)]] w fun e w' => ∃ v', e = .returned (.tuple #[.agg #[.int .u64 16, .int .u64 2, v', .string xS], .int .i64 0]) ∧ OwnI w' w.heap.size v' [1, 3] ∧ Below w.heap.size w w' := by
  have h := load_snap_any dv false (-1) fs w hf
  obtain ⟨e1, e2, e3, e4, e5⟩ := ls_file h0 rs_x hl
  unfold LoadS at h
  rw [e1, e2, e3, e4, e5] at h
  refine h.mono ?_
  rintro e w' ⟨⟨v', rfl, ho⟩, hb⟩
  exact ⟨v', rfl, ho, hb⟩
theorem lives_save2 (fs : List Fl) (h0 : chkN fs = 0) (hl : look fs nSn = some ⟨nSn, snC 16 2 [1, 3] xS, ((snC 16 2 [1, 3] xS).size : Nat)⟩) (dv v : Value) (w : World) (hf : Files w w.heap.size dv fs) (hk : Ints w w.heap.size v [1]) :
    Calls Try.prog 6 #[.agg #[dv, .bool false, .int .i64 (-1)], .agg #[.int .u64 4, .int .u64 0, v, .string ⟨#[]⟩]] w fun e w' => ∃ a n c dn fu, e = .returned (.tuple #[.agg #[.slice a n c, .bool dn, .int .i64 fu], .int .i64 17]) ∧ Below w.heap.size w w' := by
  obtain ⟨e1, e2, e3, e4, e5⟩ := ls_file h0 rs_x hl
  have hsv : svE fs false 4 0 [1] ⟨#[]⟩ = 17 := by
    unfold svE rfN
    rw [if_pos chk_4, e1, e5]; rfl
  have h := save_no dv false (-1) fs 4 0 v [1] ⟨#[]⟩ w hf hk (by omega) (by omega) (by rw [hsv]; omega)
  rw [hsv] at h
  refine h.mono ?_
  rintro e w' ⟨v', rfl, hf', -, hb⟩
  obtain ⟨a, c, rfl⟩ := files_slice hf'
  exact ⟨a, _, c, _, _, rfl, hb⟩
theorem enc_x : PM.bs (Hd.enS 16 2 [1, 3] xS) = ⟨#[1, 16, 1, 2, 1, 2, 1, 1, 1, 3, 1, 1, 120]⟩ := by
  unfold Hd.enS
  rw [if_pos chk_x]
  decide +kernel
theorem lives_encode (v : Value) (w : World) (hk : Ints w w.heap.size v [1, 3]) :
    Calls Try.prog 13 #[.agg #[.int .u64 16, .int .u64 2, v, .string xS]] w fun e w' => e = .returned (.tuple #[.string ⟨#[1, 16, 1, 2, 1, 2, 1, 1, 1, 3, 1, 1, 120]⟩, .int .i64 0]) ∧ Below w.heap.size w w' := by
  have h := Hd.snap_encode 16 2 v [1, 3] xS w hk (by omega) (by omega)
  unfold Hd.EncIs at h
  rw [enc_x, chk_x] at h
  exact h
theorem ints_new (w : World) (T : TypeId) (ks : List Int) (hl : ks.length ≤ 100) (hr : ∀ x ∈ ks, -9223372036854775808 ≤ x ∧ x ≤ 9223372036854775807) : Ints (w.alloc (.cells (ks.map fun k => Value.int .i64 k).toArray T)) (w.heap.size + 1) (.slice (some ⟨w.heap.size, 0, none⟩) ks.length ks.length) ks := by
  refine ⟨_, _, rfl, by omega, hr, fun _ => ⟨w.heap.size, 0, rfl, by omega, fun i hi => ?_⟩⟩
  have h := PackBytes.cell_alloc_new w (ks.map fun k => Value.int .i64 k).toArray T i
  rw [Addr.add_lit, Nat.zero_add] at h
  rw [Nat.zero_add, h]
  simp [List.getElem?_eq_getElem hi]
end Dk
end Go.Proofs.Ytjgdmdgiicpemaa
