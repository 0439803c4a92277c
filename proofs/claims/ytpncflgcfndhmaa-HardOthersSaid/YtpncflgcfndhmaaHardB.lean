/-
  Merged: HardChg, HardDo, HardSave, HardLoad.
-/
import Derived.Test.YtpncflgcfndhmaaHardA
import Derived.Test.YtpncflgcfndhmaaDiskTail
import Derived.Deep.RegionHeld3
/- THE CHANGES of a rewrite, each a closure; all of them, one by one. -/
namespace Go.Proofs.Ytpncflgcfndhmaa
open Go.RowKit Go.Lib Go.Sort
namespace Dk
set_option maxHeartbeats 1000000 in
theorem clo2 (v : Value) (dn : Bool) (fu : Int) (fs fs2 : List Fl) (dn2 : Bool) (fu2 : Int) (r : Nat) (nm : ByteArray) (da : ByteArray) (pT : Nat) (pC : Nat)
    (H : ∀ w : World, Files w w.heap.size v fs → Calls Try.prog 45 #[.agg #[v, .bool dn, .int .i64 fu], .string nm, .string da] w (DoIs w fs2 dn2 fu2 r)) (w : World) (hv : Files w w.heap.size v fs) (hT : w.cell? ⟨pT, 0, none⟩ = some (.string nm)) (hC : w.cell? ⟨pC, 0, none⟩ = some (.string da)) :
    Calls Try.prog 44 #[.agg #[v, .bool dn, .int .i64 fu], .pointer (some ⟨pT, 0, none⟩), .pointer (some ⟨pC, 0, none⟩)] w (DoIs w fs2 dn2 fu2 r) := by
  have HV := Lib.hid hv
  have HH := Lib.hid H
  clear H
  obtain ⟨a, c, rfl, -⟩ := hv
  have hlT := World.block_lt_of_cell? w _ hT
  have kT : ∀ o o', ((w.alloc o).alloc o').cell? ⟨pT, 0, none⟩ = some (.string nm) := fun o o' => (World.cell?_alloc_lt _ o' ⟨pT, 0, none⟩ (by show pT < _; simp; simp at hlT; omega)).trans ((World.cell?_alloc_lt w o ⟨pT, 0, none⟩ hlT).trans hT)
  have hlC := World.block_lt_of_cell? w _ hC
  have kC : ∀ o o', ((w.alloc o).alloc o').cell? ⟨pC, 0, none⟩ = some (.string da) := fun o o' => (World.cell?_alloc_lt _ o' ⟨pC, 0, none⟩ (by show pC < _; simp; simp at hlC; omega)).trans ((World.cell?_alloc_lt w o ⟨pC, 0, none⟩ hlC).trans hC)
  have h1 := HH.out ((w.alloc (.cells #[.slice a fs.length c, .bool dn, .int .i64 fu] 24)).alloc (.cells #[.slice none 0 0, .bool false, .int .i64 0] 24)) ((HV.out.al _).al _)
  unfold DoIs at h1
  simp only [World.size_alloc] at h1
  unfold DoIs
  go_enter Try.func44, Try.ntmps44
  go_wp2_with (go_at_call 45; go_loud (refine h1.mono ?_; rintro e w1 ⟨v1, rfl, hown, hb⟩; obtain ⟨a5, c5, rfl⟩ := hown.slice; obtain ⟨⟨d0, d1, d2⟩, d3, d4, d5⟩ := box2 hb; have HB := Lib.hid hb; have HO := Lib.hid hown; clear hb hown))
  refine bodyPost_disk rfl (w.heap.size + 1) (.slice a5 fs2.length c5) dn2 fu2 rfl rfl ?_ ?_ ?_ ?_
  case refine_1 => go_simp
  case refine_2 => go_simp
  case refine_3 => go_simp
  case refine_4 =>
    refine ⟨_, rfl, Own.le (base := w.heap.size + 1 + 1) ?_ (by omega), ?_⟩
    · repeat (first | exact HO.out | refine Own.sb ?_ (show w.heap.size + 1 < w.heap.size + 1 + 1 by omega) _)
    · repeat (first | exact (((Below.refl _ _).alloc (Nat.le_refl _) _).alloc (by simp) _).trans (HB.out.mono (by omega)) | refine bset ?_ (show w.heap.size ≤ w.heap.size + 1 by omega) _)
set_option maxHeartbeats 1000000 in
theorem clo3 (v : Value) (dn : Bool) (fu : Int) (fs fs2 : List Fl) (dn2 : Bool) (fu2 : Int) (r : Nat) (nm : ByteArray) (pT : Nat)
    (H : ∀ w : World, Files w w.heap.size v fs → Calls Try.prog 47 #[.agg #[v, .bool dn, .int .i64 fu], .string nm] w (DoIs w fs2 dn2 fu2 r)) (w : World) (hv : Files w w.heap.size v fs) (hT : w.cell? ⟨pT, 0, none⟩ = some (.string nm)) :
    Calls Try.prog 46 #[.agg #[v, .bool dn, .int .i64 fu], .pointer (some ⟨pT, 0, none⟩)] w (DoIs w fs2 dn2 fu2 r) := by
  have HV := Lib.hid hv
  have HH := Lib.hid H
  clear H
  obtain ⟨a, c, rfl, -⟩ := hv
  have hlT := World.block_lt_of_cell? w _ hT
  have kT : ∀ o o', ((w.alloc o).alloc o').cell? ⟨pT, 0, none⟩ = some (.string nm) := fun o o' => (World.cell?_alloc_lt _ o' ⟨pT, 0, none⟩ (by show pT < _; simp; simp at hlT; omega)).trans ((World.cell?_alloc_lt w o ⟨pT, 0, none⟩ hlT).trans hT)
  have h1 := HH.out ((w.alloc (.cells #[.slice a fs.length c, .bool dn, .int .i64 fu] 24)).alloc (.cells #[.slice none 0 0, .bool false, .int .i64 0] 24)) ((HV.out.al _).al _)
  unfold DoIs at h1
  simp only [World.size_alloc] at h1
  unfold DoIs
  go_enter Try.func46, Try.ntmps46
  go_wp2_with (go_at_call 47; go_loud (refine h1.mono ?_; rintro e w1 ⟨v1, rfl, hown, hb⟩; obtain ⟨a5, c5, rfl⟩ := hown.slice; obtain ⟨⟨d0, d1, d2⟩, d3, d4, d5⟩ := box2 hb; have HB := Lib.hid hb; have HO := Lib.hid hown; clear hb hown))
  refine bodyPost_disk rfl (w.heap.size + 1) (.slice a5 fs2.length c5) dn2 fu2 rfl rfl ?_ ?_ ?_ ?_
  case refine_1 => go_simp
  case refine_2 => go_simp
  case refine_3 => go_simp
  case refine_4 =>
    refine ⟨_, rfl, Own.le (base := w.heap.size + 1 + 1) ?_ (by omega), ?_⟩
    · repeat (first | exact HO.out | refine Own.sb ?_ (show w.heap.size + 1 < w.heap.size + 1 + 1 by omega) _)
    · repeat (first | exact (((Below.refl _ _).alloc (Nat.le_refl _) _).alloc (by simp) _).trans (HB.out.mono (by omega)) | refine bset ?_ (show w.heap.size ≤ w.heap.size + 1 by omega) _)
set_option maxHeartbeats 1000000 in
theorem clo4 (v : Value) (dn : Bool) (fu : Int) (fs fs2 : List Fl) (dn2 : Bool) (fu2 : Int) (r : Nat) (nm : ByteArray) (ot : ByteArray) (pT : Nat) (pF : Nat)
    (H : ∀ w : World, Files w w.heap.size v fs → Calls Try.prog 49 #[.agg #[v, .bool dn, .int .i64 fu], .string nm, .string ot] w (DoIs w fs2 dn2 fu2 r)) (w : World) (hv : Files w w.heap.size v fs) (hT : w.cell? ⟨pT, 0, none⟩ = some (.string nm)) (hF : w.cell? ⟨pF, 0, none⟩ = some (.string ot)) :
    Calls Try.prog 48 #[.agg #[v, .bool dn, .int .i64 fu], .pointer (some ⟨pT, 0, none⟩), .pointer (some ⟨pF, 0, none⟩)] w (DoIs w fs2 dn2 fu2 r) := by
  have HV := Lib.hid hv
  have HH := Lib.hid H
  clear H
  obtain ⟨a, c, rfl, -⟩ := hv
  have hlT := World.block_lt_of_cell? w _ hT
  have kT : ∀ o o', ((w.alloc o).alloc o').cell? ⟨pT, 0, none⟩ = some (.string nm) := fun o o' => (World.cell?_alloc_lt _ o' ⟨pT, 0, none⟩ (by show pT < _; simp; simp at hlT; omega)).trans ((World.cell?_alloc_lt w o ⟨pT, 0, none⟩ hlT).trans hT)
  have hlF := World.block_lt_of_cell? w _ hF
  have kF : ∀ o o', ((w.alloc o).alloc o').cell? ⟨pF, 0, none⟩ = some (.string ot) := fun o o' => (World.cell?_alloc_lt _ o' ⟨pF, 0, none⟩ (by show pF < _; simp; simp at hlF; omega)).trans ((World.cell?_alloc_lt w o ⟨pF, 0, none⟩ hlF).trans hF)
  have h1 := HH.out ((w.alloc (.cells #[.slice a fs.length c, .bool dn, .int .i64 fu] 24)).alloc (.cells #[.slice none 0 0, .bool false, .int .i64 0] 24)) ((HV.out.al _).al _)
  unfold DoIs at h1
  simp only [World.size_alloc] at h1
  unfold DoIs
  go_enter Try.func48, Try.ntmps48
  go_wp2_with (go_at_call 49; go_loud (refine h1.mono ?_; rintro e w1 ⟨v1, rfl, hown, hb⟩; obtain ⟨a5, c5, rfl⟩ := hown.slice; obtain ⟨⟨d0, d1, d2⟩, d3, d4, d5⟩ := box2 hb; have HB := Lib.hid hb; have HO := Lib.hid hown; clear hb hown))
  refine bodyPost_disk rfl (w.heap.size + 1) (.slice a5 fs2.length c5) dn2 fu2 rfl rfl ?_ ?_ ?_ ?_
  case refine_1 => go_simp
  case refine_2 => go_simp
  case refine_3 => go_simp
  case refine_4 =>
    refine ⟨_, rfl, Own.le (base := w.heap.size + 1 + 1) ?_ (by omega), ?_⟩
    · repeat (first | exact HO.out | refine Own.sb ?_ (show w.heap.size + 1 < w.heap.size + 1 + 1 by omega) _)
    · repeat (first | exact (((Below.refl _ _).alloc (Nat.le_refl _) _).alloc (by simp) _).trans (HB.out.mono (by omega)) | refine bset ?_ (show w.heap.size ≤ w.heap.size + 1 by omega) _)
/-- The files lie in a block from B on. -/
def Hi (B : Nat) (v : Value) : Prop := ∀ b off n c, v = .slice (some ⟨b, off, none⟩) n c → B ≤ b
theorem Own.hi {w : World} {base : Nat} {v : Value} {fs : List Fl} (h : Own w base v fs) : Hi base v := by
  intro b off n c e
  rcases h.2 with ⟨e3, -⟩ | ⟨g3, cap, cur, e3, hb3, -⟩
  · rw [e] at e3; simp at e3
  · rw [e] at e3
    simp only [Value.slice.injEq, Option.some.injEq, Addr.mk.injEq] at e3
    omega
theorem Hi.le {B C : Nat} {v : Value} (h : Hi C v) (hB : B ≤ C) : Hi B v := fun b off n c e => Nat.le_trans hB (h b off n c e)
/-- What a change comes to, its files in memory. -/
def DoW (w : World) (v : Value) (fs2 : List Fl) (dn : Bool) (fu : Int) (r : Nat) (e : Ending) (w' : World) : Prop :=
  ∃ v', e = .returned (.tuple #[.agg #[v', .bool dn, .int .i64 fu], .int .i64 (r : Nat)]) ∧ Files w' w'.heap.size v' fs2 ∧ (∀ B, B ≤ w.heap.size → Hi B v → Hi B v') ∧ Below w.heap.size w w'
theorem DoIs.w {w w' : World} {v : Value} {fs2 : List Fl} {dn : Bool} {fu : Int} {r : Nat} {e : Ending} (h : DoIs w fs2 dn fu r e w') (hf : Fine fs2) (hl : fs2.length ≤ 4611686018427387904) : DoW w v fs2 dn fu r e w' := by
  obtain ⟨v', rfl, ho, hb⟩ := h
  exact ⟨v', rfl, ho.files hf hl, fun B hB _ => ho.hi.le hB, hb⟩
set_option maxHeartbeats 2000000 in
theorem clo1_none (v : Value) (dn : Bool) (fu : Int) (fs : List Fl) (nm : ByteArray) (pT : Nat) (hr : rdE fs dn nm = 6) (w : World) (hv : Files w w.heap.size v fs) (hT : w.cell? ⟨pT, 0, none⟩ = some (.string nm)) :
    Calls Try.prog 42 #[.agg #[v, .bool dn, .int .i64 fu], .pointer (some ⟨pT, 0, none⟩)] w (DoW w v fs dn fu 0) := by
  have HV := Lib.hid hv
  obtain ⟨a, c, rfl, -⟩ := hv
  have hlT := World.block_lt_of_cell? w _ hT
  have kT : ∀ o o', ((w.alloc o).alloc o').cell? ⟨pT, 0, none⟩ = some (.string nm) := fun o o' => (World.cell?_alloc_lt _ o' ⟨pT, 0, none⟩ (by show pT < _; simp; simp at hlT; omega)).trans ((World.cell?_alloc_lt w o ⟨pT, 0, none⟩ hlT).trans hT)
  have h1 := read_own (.slice a fs.length c) dn fu fs nm ((w.alloc (.cells #[.slice a fs.length c, .bool dn, .int .i64 fu] 24)).alloc (.cells #[.slice none 0 0, .bool false, .int .i64 0] 24)) ((HV.out.al _).al _)
  unfold ReadIs at h1
  rw [hr] at h1
  simp only [World.size_alloc] at h1
  clear hr
  generalize rdS fs dn nm = s at *
  unfold DoW
  go_enter Try.func42, Try.ntmps42
  go_wp2_with (go_at_call 18; go_loud (refine h1.mono ?_; rintro e w1 ⟨rfl, hb⟩; obtain ⟨⟨d0, d1, d2⟩, d3, d4, d5⟩ := box2 hb; have g0 := (hb.cell (p := ⟨w.heap.size, 0, none⟩) (by show w.heap.size < _; omega)); have g1 := (hb.cell (p := ⟨w.heap.size, 1, none⟩) (by show w.heap.size < _; omega)); have g2 := (hb.cell (p := ⟨w.heap.size, 2, none⟩) (by show w.heap.size < _; omega)); have HB := Lib.hid hb; clear hb))
  refine bodyPost_disk rfl (w.heap.size + 1) (.slice a fs.length c) dn fu rfl rfl ?_ ?_ ?_ ?_
  case refine_1 => go_simp
  case refine_2 => go_simp
  case refine_3 => go_simp
  case refine_4 =>
    have HW : Below w.heap.size w w1 := ((((Below.refl _ _).alloc (Nat.le_refl _) _).alloc (by simp) _).trans (HB.out.mono (by omega)))
    have hz := HW.size
    refine ⟨_, rfl, ?_, fun _ _ h => h, bset (bset (bset HW (by show w.heap.size ≤ w.heap.size + 1; omega) _) (by show w.heap.size ≤ w.heap.size + 1; omega) _) (by show w.heap.size ≤ w.heap.size + 1; omega) _⟩
    exact HV.out.on (bset (bset (bset HW (by show w.heap.size ≤ w.heap.size + 1; omega) _) (by show w.heap.size ≤ w.heap.size + 1; omega) _) (by show w.heap.size ≤ w.heap.size + 1; omega) _) (by simp; omega)
set_option maxHeartbeats 2000000 in
theorem clo1_drop (v : Value) (dn : Bool) (fu : Int) (fs fs2 : List Fl) (dn2 : Bool) (fu2 : Int) (r : Nat) (nm : ByteArray) (pT : Nat) (hr : rdE fs dn nm ≠ 6)
    (H : ∀ w : World, Files w w.heap.size v fs → Calls Try.prog 43 #[.agg #[v, .bool dn, .int .i64 fu], .string nm] w (DoIs w fs2 dn2 fu2 r)) (w : World) (hv : Files w w.heap.size v fs) (hT : w.cell? ⟨pT, 0, none⟩ = some (.string nm)) :
    Calls Try.prog 42 #[.agg #[v, .bool dn, .int .i64 fu], .pointer (some ⟨pT, 0, none⟩)] w (DoIs w fs2 dn2 fu2 r) := by
  have HV := Lib.hid hv
  have HH := Lib.hid H
  clear H
  obtain ⟨a, c, rfl, -⟩ := hv
  have hlT := World.block_lt_of_cell? w _ hT
  have kT : ∀ o o', ((w.alloc o).alloc o').cell? ⟨pT, 0, none⟩ = some (.string nm) := fun o o' => (World.cell?_alloc_lt _ o' ⟨pT, 0, none⟩ (by show pT < _; simp; simp at hlT; omega)).trans ((World.cell?_alloc_lt w o ⟨pT, 0, none⟩ hlT).trans hT)
  have h1 := read_own (.slice a fs.length c) dn fu fs nm ((w.alloc (.cells #[.slice a fs.length c, .bool dn, .int .i64 fu] 24)).alloc (.cells #[.slice none 0 0, .bool false, .int .i64 0] 24)) ((HV.out.al _).al _)
  unfold ReadIs at h1
  simp only [World.size_alloc] at h1
  have hr2 : ¬ ((rdE fs dn nm : Int) = 6) := by omega
  have hr3 : (((rdE fs dn nm : Nat) : Int) == 6) = false := by simp; omega
  clear hr
  generalize rdS fs dn nm = s at *
  generalize rdE fs dn nm = re at *
  unfold DoIs
  go_enter Try.func42, Try.ntmps42
  go_wp2_with fail
  refine h1.mono ?_
  rintro e w1 ⟨rfl, hb⟩
  have g0 := (hb.cell (p := ⟨w.heap.size, 0, none⟩) (by show w.heap.size < _; omega))
  have g1 := (hb.cell (p := ⟨w.heap.size, 1, none⟩) (by show w.heap.size < _; omega))
  have g2 := (hb.cell (p := ⟨w.heap.size, 2, none⟩) (by show w.heap.size < _; omega))
  have gT := (hb.cell (p := ⟨pT, 0, none⟩) (by show pT < _; have h9 : pT < w.heap.size := hlT; omega)).trans (kT _ _)
  have HB := Lib.hid hb
  have HW : Hid (Below w.heap.size w w1) := ((((Below.refl _ _).alloc (Nat.le_refl _) _).alloc (by simp) _).trans (hb.mono (by omega)))
  have hz := hb.size
  simp at hz
  clear hb
  go_wp2_with fail
  refine (HH.out _ (HV.out.on HW.out (by omega))).mono ?_
  rintro e w2 ⟨v2, rfl, hown, hb⟩
  obtain ⟨a5, c5, rfl⟩ := hown.slice
  obtain ⟨⟨d0, d1, d2⟩, d3, d4, d5⟩ := box2 (HB.out.trans (hb.mono (by omega)))
  have HW2 := Lib.hid (HW.out.trans (hb.mono (by omega)))
  have HO := Lib.hid hown
  clear hown hb
  go_wp2
  refine bodyPost_disk rfl (w.heap.size + 1) (.slice a5 fs2.length c5) dn2 fu2 rfl rfl ?_ ?_ ?_ ?_
  case refine_1 => go_simp
  case refine_2 => go_simp
  case refine_3 => go_simp
  case refine_4 =>
    refine ⟨_, rfl, Own.le (base := w1.heap.size) ?_ (by omega), ?_⟩
    · repeat (first | exact HO.out | refine Own.sb ?_ (show w.heap.size + 1 < w1.heap.size by omega) _)
    · repeat (first | exact HW2.out | refine bset ?_ (show w.heap.size ≤ w.heap.size + 1 by omega) _)
end Dk
end Go.Proofs.Ytpncflgcfndhmaa

/- A REWRITE: changes.Rewrite, changes.Do of its four changes. -/
namespace Go.Proofs.Ytpncflgcfndhmaa
open Go.RowKit Go.Lib Go.Sort
namespace Dk
/-- Where the four changes lie, and what they hold. -/
def Rw (w : World) (g pF pT pC : Nat) (nf nt da : ByteArray) : Prop :=
  w.cell? ⟨g, 0, none⟩ = some (.func (.func 42) #[] #[.pointer (some ⟨pT, 0, none⟩)]) ∧
  w.cell? ⟨g, 1, none⟩ = some (.func (.func 44) #[] #[.pointer (some ⟨pT, 0, none⟩), .pointer (some ⟨pC, 0, none⟩)]) ∧
  w.cell? ⟨g, 2, none⟩ = some (.func (.func 46) #[] #[.pointer (some ⟨pT, 0, none⟩)]) ∧
  w.cell? ⟨g, 3, none⟩ = some (.func (.func 48) #[] #[.pointer (some ⟨pT, 0, none⟩), .pointer (some ⟨pF, 0, none⟩)]) ∧
  w.cell? ⟨pF, 0, none⟩ = some (.string nf) ∧ w.cell? ⟨pT, 0, none⟩ = some (.string nt) ∧ w.cell? ⟨pC, 0, none⟩ = some (.string da)
theorem Rw.below {w w' : World} {g pF pT pC : Nat} {nf nt da : ByteArray} (h : Rw w g pF pT pC nf nt da) (hb : Below w.heap.size w w') : Rw w' g pF pT pC nf nt da := by
  obtain ⟨c0, c1, c2, c3, c4, c5, c6⟩ := h
  have k : ∀ b o u, w.cell? ⟨b, o, none⟩ = some u → w'.cell? ⟨b, o, none⟩ = some u := fun b o u hu => (hb.cell (World.block_lt_of_cell? w _ hu)).trans hu
  exact ⟨k _ _ _ c0, k _ _ _ c1, k _ _ _ c2, k _ _ _ c3, k _ _ _ c4, k _ _ _ c5, k _ _ _ c6⟩
set_option maxHeartbeats 400000 in
theorem rewrite_any (nf nt da : ByteArray) (w : World) :
    Calls Try.prog 26 #[.string nf, .string nt, .string da] w fun e w' => ∃ g pF pT pC, e = .returned (.slice (some ⟨g, 0, none⟩) 4 4) ∧ Rw w' g pF pT pC nf nt da ∧ Below w.heap.size w w' := by
  have hmf : ∀ (fn : Fn) (first cap : Array Value) (w : World), (Instr.makeFunc fn first cap).run Try.prog w = .ok (.func fn first cap) w := fun _ _ _ _ => rfl
  go_enter Try.func26, Try.ntmps26
  go_wp2
  go_ret
  refine ⟨w.heap.size + 1 + 1 + 1, w.heap.size, w.heap.size + 1, w.heap.size + 1 + 1, rfl, ?_, ((((Below.refl _ _).alloc (Nat.le_refl _) _).alloc (by simp) _).alloc (by simp; omega) _).alloc (by simp; omega) _⟩
  refine ⟨?_, ?_, ?_, ?_, ?_, ?_, ?_⟩ <;> simp [go_sem]

def thenO (o : Out) (f : List Fl → Bool → Int → Out) : Out := if o.r = 0 then f o.fs o.dn o.fu else o
def rw1 (nt : ByteArray) (fs : List Fl) (dn : Bool) (fu : Int) : Out := if rdE fs dn nt = 6 then ⟨fs, dn, fu, 0⟩ else drpO fs dn fu nt
def stp (nf nt da : ByteArray) : Nat → List Fl → Bool → Int → Out
  | 0 => fun fs dn fu => rw1 nt fs dn fu
  | 1 => fun fs dn fu => addO fs dn fu nt da
  | 2 => fun fs dn fu => synO fs dn fu nt
  | _ + 3 => fun fs dn fu => swpO fs dn fu nt nf
/-- What the first changes of a rewrite come to. -/
def seqO (nf nt da : ByteArray) (fs : List Fl) (dn : Bool) (fu : Int) : Nat → Out
  | 0 => ⟨fs, dn, fu, 0⟩
  | k + 1 => thenO (seqO nf nt da fs dn fu k) (stp nf nt da k)
theorem thenO_bad {o : Out} {f : List Fl → Bool → Int → Out} (h : o.r ≠ 0) : thenO o f = o := by unfold thenO; rw [if_neg h]
theorem thenO_ok {o : Out} {f : List Fl → Bool → Int → Out} (h : o.r = 0) : thenO o f = f o.fs o.dn o.fu := by unfold thenO; rw [if_pos h]
theorem seq_succ (nf nt da : ByteArray) (fs : List Fl) (dn : Bool) (fu : Int) (k : Nat) : seqO nf nt da fs dn fu (k + 1) = thenO (seqO nf nt da fs dn fu k) (stp nf nt da k) := rfl
theorem seq_stop (nf nt da : ByteArray) (fs : List Fl) (dn : Bool) (fu : Int) (k : Nat) (h : (seqO nf nt da fs dn fu k).r ≠ 0) (j : Nat) : seqO nf nt da fs dn fu (k + j) = seqO nf nt da fs dn fu k := by
  induction j with
  | zero => rfl
  | succ j ih =>
    rw [← Nat.add_assoc, seq_succ, ih]
    exact thenO_bad h
/-- What must hold of a disk, that more can be done to it. -/
structure Inv (m : Nat) (o : Out) : Prop where
  lo : -9223372036854775808 ≤ o.fu
  hi : o.fu ≤ 9223372036854775807
  fine : Fine o.fs
  len : o.fs.length ≤ 4611686018427387904
  room : ∀ f ∈ o.fs, f.da.size + m ≤ 9223372036854775807
/-- Change k of a rewrite, met anywhere. -/
def ChO (nf nt da : ByteArray) (o o2 : Out) (fn : FuncId) (args : Value → Nat → Nat → Nat → Array Value) : Prop :=
  ∀ (x : World) (g pF pT pC : Nat) (v : Value), Files x x.heap.size v o.fs → Rw x g pF pT pC nf nt da →
    Calls Try.prog fn (args (.agg #[v, .bool o.dn, .int .i64 o.fu]) pF pT pC) x (DoW x v o2.fs o2.dn o2.fu o2.r)
theorem ch1 (nf nt da : ByteArray) (o o2 : Out) (e : o2 = rw1 nt o.fs o.dn o.fu) (h0 : Inv da.size o) (h1 : Inv da.size o2) : ChO nf nt da o o2 42 (fun d _ pT _ => #[d, .pointer (some ⟨pT, 0, none⟩)]) := by
  intro x g pF pT pC v hv hrw
  obtain ⟨-, -, -, -, -, cT, -⟩ := hrw
  unfold rw1 at e
  by_cases h6 : rdE o.fs o.dn nt = 6
  · rw [if_pos h6] at e
    subst e
    exact clo1_none v o.dn o.fu o.fs nt pT h6 x hv cT
  · rw [if_neg h6] at e
    have hc := clo1_drop v o.dn o.fu o.fs _ _ _ _ nt pT h6 (fun w hw => drop_all v o.fs o.dn o.fu nt h0.lo h0.hi w hw) x hv cT
    rw [← e] at hc
    exact hc.mono fun e w' h => h.w h1.fine h1.len
theorem ch2 (nf nt da : ByteArray) (o o2 : Out) (e : o2 = addO o.fs o.dn o.fu nt da) (hz : da.size ≤ 9223372036854775807) (h0 : Inv da.size o) (h1 : Inv da.size o2) : ChO nf nt da o o2 44 (fun d _ pT pC => #[d, .pointer (some ⟨pT, 0, none⟩), .pointer (some ⟨pC, 0, none⟩)]) := by
  intro x g pF pT pC v hv hrw
  obtain ⟨-, -, -, -, -, cT, cC⟩ := hrw
  have hc := clo2 v o.dn o.fu o.fs _ _ _ _ nt da pT pC (fun w hw => add_all v o.fs o.dn o.fu nt da h0.lo h0.hi hz h0.room w hw) x hv cT cC
  rw [← e] at hc
  exact hc.mono fun e w' h => h.w h1.fine h1.len
theorem ch3 (nf nt da : ByteArray) (o o2 : Out) (e : o2 = synO o.fs o.dn o.fu nt) (h0 : Inv da.size o) (h1 : Inv da.size o2) : ChO nf nt da o o2 46 (fun d _ pT _ => #[d, .pointer (some ⟨pT, 0, none⟩)]) := by
  intro x g pF pT pC v hv hrw
  obtain ⟨-, -, -, -, -, cT, cC⟩ := hrw
  have hc := clo3 v o.dn o.fu o.fs _ _ _ _ nt pT (fun w hw => sync_all v o.fs o.dn o.fu nt h0.lo h0.hi w hw) x hv cT
  rw [← e] at hc
  exact hc.mono fun e w' h => h.w h1.fine h1.len
theorem ch4 (nf nt da : ByteArray) (o o2 : Out) (e : o2 = swpO o.fs o.dn o.fu nt nf) (h0 : Inv da.size o) (h1 : Inv da.size o2) : ChO nf nt da o o2 48 (fun d pF pT _ => #[d, .pointer (some ⟨pT, 0, none⟩), .pointer (some ⟨pF, 0, none⟩)]) := by
  intro x g pF pT pC v hv hrw
  obtain ⟨-, -, -, -, cF, cT, cC⟩ := hrw
  have hc := clo4 v o.dn o.fu o.fs _ _ _ _ nt nf pT pF (fun w hw => swap_all v o.fs o.dn o.fu nt nf h0.lo h0.hi w hw) x hv cT cF
  rw [← e] at hc
  exact hc.mono fun e w' h => h.w h1.fine h1.len
/-- All four, met anywhere, each behind those that were done. -/
structure All4 (nf nt da : ByteArray) (o : Nat → Out) : Prop where
  c0 : (o 0).r = 0 → ChO nf nt da (o 0) (o 1) 42 (fun d _ pT _ => #[d, .pointer (some ⟨pT, 0, none⟩)])
  c1 : (o 1).r = 0 → ChO nf nt da (o 1) (o 2) 44 (fun d _ pT pC => #[d, .pointer (some ⟨pT, 0, none⟩), .pointer (some ⟨pC, 0, none⟩)])
  c2 : (o 2).r = 0 → ChO nf nt da (o 2) (o 3) 46 (fun d _ pT _ => #[d, .pointer (some ⟨pT, 0, none⟩)])
  c3 : (o 3).r = 0 → ChO nf nt da (o 3) (o 4) 48 (fun d pF pT _ => #[d, .pointer (some ⟨pT, 0, none⟩), .pointer (some ⟨pF, 0, none⟩)])
theorem all4 (nf nt da : ByteArray) (fs : List Fl) (dn : Bool) (fu : Int) (hz : da.size ≤ 9223372036854775807) (hi : ∀ k, k ≤ 4 → Inv da.size (seqO nf nt da fs dn fu k)) : All4 nf nt da (seqO nf nt da fs dn fu) where
  c0 h := ch1 nf nt da _ _ ((seq_succ ..).trans (thenO_ok h)) (hi 0 (by omega)) (hi 1 (by omega))
  c1 h := ch2 nf nt da _ _ ((seq_succ ..).trans (thenO_ok h)) hz (hi 1 (by omega)) (hi 2 (by omega))
  c2 h := ch3 nf nt da _ _ ((seq_succ ..).trans (thenO_ok h)) (hi 2 (by omega)) (hi 3 (by omega))
  c3 h := ch4 nf nt da _ _ ((seq_succ ..).trans (thenO_ok h)) (hi 3 (by omega)) (hi 4 (by omega))
theorem files_slice {w : World} {B : Nat} {v : Value} {fs : List Fl} (h : Files w B v fs) : ∃ a c, v = .slice a fs.length c := by
  obtain ⟨a, c, rfl, -⟩ := h
  exact ⟨a, c, rfl⟩
theorem Dx.on {B : Nat} {w w' : World} {v : Value} {dn : Bool} {fu : Int} (h : Dx B w v dn fu) (hb : Below w.heap.size w w') (hB : B < w.heap.size) : Dx B w' v dn fu := h.keep hb hB
/-- Where Do stands: the disk in its box, the result's box. -/
def Now (w x : World) (v : Value) (o : Out) : Prop :=
  Dx w.heap.size x v o.dn o.fu ∧ Dx (w.heap.size + 1) x (.slice none 0 0) false 0 ∧ Files x x.heap.size v o.fs ∧ Hi (w.heap.size + 2) v ∧ Below w.heap.size w x ∧ w.heap.size + 1 < x.heap.size
theorem Files.st {w : World} {v : Value} {fs : List Fl} (h : Files w w.heap.size v fs) (p : Addr) (u : Value) (hp : ∀ b off c, v = .slice (some ⟨b, off, none⟩) fs.length c → b ≠ p.block) : Files (w.setCell p u) (w.setCell p u).heap.size v fs := by
  obtain ⟨a, c, rfl, h1, h2, h3⟩ := h
  refine ⟨a, c, rfl, h1, h2, fun hp0 => ?_⟩
  obtain ⟨b, off, rfl, hlt, hc⟩ := h3 hp0
  have hne := hp b off c rfl
  have k : ∀ o, (w.setCell p u).cell? ⟨b, o, none⟩ = w.cell? ⟨b, o, none⟩ := fun o => World.cell?_setCell_other _ _ _ _ (by intro e; apply hne; rw [e])
  refine ⟨b, off, rfl, by simpa using hlt, fun i hi => ?_⟩
  rw [k, k, k]
  exact hc i hi
theorem Files.put {w : World} {B p i : Nat} {v u : Value} {fs : List Fl} (h : Files w w.heap.size v fs) (hi : Hi B v) (hp : p < B) : Files (w.setCell ⟨p, i, none⟩ u) (w.setCell ⟨p, i, none⟩ u).heap.size v fs :=
  h.st _ _ (fun b off c e => by have := hi b off _ c e; show b ≠ p; omega)
theorem Files.put3 {w : World} {B p : Nat} {v u0 u1 u2 : Value} {fs : List Fl} (h : Files w w.heap.size v fs) (hi : Hi B v) (hp : p < B) : Files (((w.setCell ⟨p, 0, none⟩ u0).setCell ⟨p, 1, none⟩ u1).setCell ⟨p, 2, none⟩ u2) (((w.setCell ⟨p, 0, none⟩ u0).setCell ⟨p, 1, none⟩ u1).setCell ⟨p, 2, none⟩ u2).heap.size v fs :=
  ((h.put hi hp).put hi hp).put hi hp
theorem below3 {B p : Nat} {a w : World} {u0 u1 u2 : Value} (h : Below B a w) (hp : B ≤ p) : Below B a (((w.setCell ⟨p, 0, none⟩ u0).setCell ⟨p, 1, none⟩ u1).setCell ⟨p, 2, none⟩ u2) := bset (bset (bset h hp _) hp _) hp _
theorem Dx.far {B p i : Nat} {w : World} {v u : Value} {dn : Bool} {fu : Int} (h : Dx B w v dn fu) (hp : B ≠ p) : Dx B (w.setCell ⟨p, i, none⟩ u) v dn fu := by
  have k : ∀ o, (w.setCell ⟨p, i, none⟩ u).cell? ⟨B, o, none⟩ = w.cell? ⟨B, o, none⟩ := fun o => World.cell?_setCell_other _ _ _ _ (by intro e; injection e with e1; exact hp e1.symm)
  obtain ⟨d0, d1, d2, d3, d4, d5⟩ := h
  exact ⟨(k _).trans d0, (k _).trans d1, (k _).trans d2, by simpa using d3, by simpa using d4, by simpa using d5⟩
theorem state_next {w x : World} {v v2 : Value} {dn dn2 : Bool} {fu fu2 : Int} {fs2 : List Fl} {r : Nat} (hd : Dx w.heap.size x v dn fu) (he : Dx (w.heap.size + 1) x (.slice none 0 0) false 0) (hf : Files x x.heap.size v2 fs2) (hh : Hi (w.heap.size + 2) v2) (hb : Below w.heap.size w x) (hz : w.heap.size + 1 < x.heap.size) :
    Now w (((x.setCell ⟨w.heap.size, 0, none⟩ v2).setCell ⟨w.heap.size, 1, none⟩ (.bool dn2)).setCell ⟨w.heap.size, 2, none⟩ (.int .i64 fu2)) v2 ⟨fs2, dn2, fu2, r⟩ := by
  refine ⟨hd.st, ((he.far (by omega)).far (by omega)).far (by omega), hf.put3 hh (by omega), hh, below3 hb (Nat.le_refl _), by simpa using hz⟩
theorem state_end0 {w x : World} {v2 : Value} {dn2 : Bool} {fu2 : Int} {fs2 : List Fl} {r : Nat} (hf : Files x x.heap.size v2 fs2) (hh : Hi (w.heap.size + 2) v2) (hb : Below w.heap.size w x) :
    DoW w (.slice none 0 0) fs2 dn2 fu2 r (.returned (.tuple #[.agg #[v2, .bool dn2, .int .i64 fu2], .int .i64 (r : Nat)])) (((x.setCell ⟨w.heap.size + 1, 0, none⟩ v2).setCell ⟨w.heap.size + 1, 1, none⟩ (.bool dn2)).setCell ⟨w.heap.size + 1, 2, none⟩ (.int .i64 fu2)) :=
  ⟨v2, rfl, hf.put3 hh (by omega), fun B hB _ => hh.le (by omega), below3 hb (by omega)⟩
theorem state_end {w x : World} {v2 : Value} {dn2 : Bool} {fu2 : Int} {fs2 : List Fl} {r : Nat} (hf : Files x x.heap.size v2 fs2) (hh : Hi (w.heap.size + 2) v2) (hb : Below w.heap.size w x) :
    DoW w (.slice none 0 0) fs2 dn2 fu2 r (.returned (.tuple #[.agg #[v2, .bool dn2, .int .i64 fu2], .int .i64 (r : Nat)])) ((((((x.setCell ⟨w.heap.size, 0, none⟩ v2).setCell ⟨w.heap.size, 1, none⟩ (.bool dn2)).setCell ⟨w.heap.size, 2, none⟩ (.int .i64 fu2)).setCell ⟨w.heap.size + 1, 0, none⟩ v2).setCell ⟨w.heap.size + 1, 1, none⟩ (.bool dn2)).setCell ⟨w.heap.size + 1, 2, none⟩ (.int .i64 fu2)) :=
  state_end0 (hf.put3 hh (by omega)) hh (below3 hb (Nat.le_refl _))
set_option maxRecDepth 100000 in
set_option maxHeartbeats 4000000 in
theorem do_rewrite (nf nt da : ByteArray) (o : Nat → Out) (hA : All4 nf nt da o) (h00 : (o 0).r = 0) (hstop : ∀ k, k ≤ 4 → (o k).r ≠ 0 → o 4 = o k) (h4 : (o 0).fs.length ≤ 4096) (hfine : Fine (o 0).fs) (v : Value) (g pF pT pC : Nat) (w : World)
    (hv : Files w w.heap.size v (o 0).fs) (hr : Rw w g pF pT pC nf nt da) :
    Calls Try.prog 25 #[.agg #[v, .bool (o 0).dn, .int .i64 (o 0).fu], .slice (some ⟨g, 0, none⟩) 4 4] w (DoW w (.slice none 0 0) (o 4).fs (o 4).dn (o 4).fu (o 4).r) := by
  have HV := Lib.hid hv
  have HR := Lib.hid hr
  have HA := Lib.hid hA
  have HS := Lib.hid hstop
  have H0 := Lib.hid h00
  have hcl := fun w hw => clone_own v (o 0).fs w hw h4
  have HC := Lib.hid hcl
  obtain ⟨a, c, rfl, -⟩ := hv
  clear hA hstop h00 hr hcl
  unfold DoW
  go_enter Try.func25, Try.ntmps25
  go_wp2_with fail
  refine (HC.out _ ((HV.out.al _).al _)).mono ?_
  rintro e w1 ⟨v1, rfl, hown, hb⟩
  obtain ⟨a1, c1, rfl⟩ := hown.slice
  have HB := Lib.hid hb
  have HO := Lib.hid hown
  have hz := hb.size
  simp at hz
  obtain ⟨⟨x0, x1, x2⟩, x3, x4, x5⟩ := box2 (v := .slice a (o 0).fs.length c) (dn := (o 0).dn) (fu := (o 0).fu) (hb.mono (by simp))
  have k0 : ∀ i, w1.cell? ⟨w.heap.size, i, none⟩ = #[.slice a (o 0).fs.length c, .bool (o 0).dn, .int .i64 (o 0).fu][i]? := fun i => by rw [hb.cell (by simp; omega)]; simp [go_sem]
  have f0 : ∀ i, w1.frozen? ⟨w.heap.size, i, none⟩ = false := fun i => (hb.frozen (by simp; omega)).trans (by simp [go_sem])
  have HD0 : Hid (Dx w.heap.size (w1.setCell ⟨w.heap.size, 0, none⟩ (.slice a1 (o 0).fs.length c1)) (.slice a1 (o 0).fs.length c1) (o 0).dn (o 0).fu) := by
    show Dx _ _ _ _ _
    constructor <;> simp [go_sem, k0, f0]
  have HE0 : Hid (Dx (w.heap.size + 1) (w1.setCell ⟨w.heap.size, 0, none⟩ (.slice a1 (o 0).fs.length c1)) (.slice none 0 0) false 0) := by
    show Dx _ _ _ _ _
    constructor <;> simp [go_sem, x0, x1, x2, x3, x4, x5]
  have HW0 : Hid (Below w.heap.size w (w1.setCell ⟨w.heap.size, 0, none⟩ (.slice a1 (o 0).fs.length c1))) := bset (((((Below.refl _ _).alloc (Nat.le_refl _) _).alloc (by simp) _).trans (hb.mono (by simp; omega)))) (Nat.le_refl _) _
  have HF0 : Hid (Files (w1.setCell ⟨w.heap.size, 0, none⟩ (.slice a1 (o 0).fs.length c1)) (w1.setCell ⟨w.heap.size, 0, none⟩ (.slice a1 (o 0).fs.length c1)).heap.size (.slice a1 (o 0).fs.length c1) (o 0).fs) :=
    Own.files (HO.out.sb (by show w.heap.size < _; simp; omega) _) hfine (by omega)
  clear hb hown x0 x1 x2 x3 x4 x5 hfine h4
  go_wp2
  go_loopg [15] 4 (fun gg i wx => ∃ (k : Nat) (v : Value), k + gg = 4 ∧ i = .int .i64 k ∧ Aside ((o k).r = 0) ∧ Aside (Now w wx v (o k)))
  case atStart => exact ⟨0, _, by omega, rfl, H0.out, ⟨HD0.out, HE0.out, HF0.out, HO.out.hi.le (by simp), HW0.out, by simp; omega⟩⟩
  case round =>
    obtain ⟨k, v, hkg, rfl, HR0, HN⟩ := hrel
    obtain ⟨hd, he, hf, hhi, hbw, hlt1⟩ := HN.out
    have HD := Lib.hid hd
    have HE := Lib.hid he
    have HFL := Lib.hid hf
    have HHI := Lib.hid hhi
    have HRW := Lib.hid (HR.out.below hbw)
    have HBW := Lib.hid hbw
    have hlt0 : w.heap.size < wr.heap.size := by omega
    obtain ⟨av, cv, rfl⟩ := files_slice hf
    obtain ⟨d0, d1, d2, d3, d4, d5⟩ := hd
    obtain ⟨x0, x1, x2, x3, x4, x5⟩ := he
    clear hf hhi hbw HN k0 f0
    cases gk with
    | zero =>
      obtain rfl : k = 4 := by omega
      clear hkg
      have HR4 := HR0
      generalize hq : o 4 = o2 at *
      have HQ4 := Lib.hid hq
      clear hq
      rcases o2 with ⟨fs2, dn2, fu2, r2⟩
      obtain rfl : r2 = 0 := HR4.out
      simp only at *
      go_wp2
      refine bodyPost_disk rfl (w.heap.size + 1) (.slice av fs2.length cv) dn2 fu2 rfl rfl ?_ ?_ ?_ ?_
      case refine_1 => go_simp
      case refine_2 => go_simp
      case refine_3 => go_simp
      case refine_4 => first | exact state_end0 HFL.out HHI.out HBW.out | (rw [HQ4.out]; exact state_end0 HFL.out HHI.out HBW.out)
    | succ gg =>
      have HG := Lib.hid hkg
      have hk : k = 0 ∨ k = 1 ∨ k = 2 ∨ k = 3 := by omega
      clear hkg
      rcases hk with rfl | rfl | rfl | rfl
      · obtain ⟨q0, q1, q2, q3, -⟩ := HRW.out
        have HK := Lib.hid (HA.out.c0 HR0.out wr g pF pT pC (.slice av (o 0).fs.length cv) HFL.out HRW.out)
        clear q1 q2 q3
        generalize hq : o 1 = o2 at *
        have HQ := Lib.hid hq
        clear hq
        go_wp2_with fail
        refine HK.out.mono ?_
        rintro e w2 ⟨v2, rfl, hf2, hh2, hb2⟩
        have HH2 := Lib.hid (hh2 _ (by omega) HHI.out)
        have HF2 := Lib.hid hf2
        obtain ⟨a2, c2, rfl⟩ := files_slice hf2
        have e0 := Dx.on HD.out hb2 hlt0
        have e1 := Dx.on HE.out hb2 hlt1
        obtain ⟨d0, d1, d2, d3, d4, d5⟩ := e0
        obtain ⟨x0, x1, x2, x3, x4, x5⟩ := e1
        have hz2 := hb2.size
        have HB2 := Lib.hid (HBW.out.trans (hb2.mono (by omega)))
        have HD2 := Lib.hid (Dx.on HD.out hb2 hlt0)
        have HE2 := Lib.hid (Dx.on HE.out hb2 hlt1)
        clear hf2 hh2 hb2
        rcases o2 with ⟨fs2, dn2, fu2, r2⟩
        simp only at *
        by_cases hr2 : r2 = 0
        · subst hr2
          go_wp2
          go_roundg gg
          case measure => omega
          case rel => exact ⟨1, .slice a2 fs2.length c2, by have := HG.out; omega, rfl, by show (o 1).r = 0; rw [HQ.out], by
            rw [HQ.out]
            exact state_next HD2.out HE2.out HF2.out HH2.out HB2.out (by omega)⟩
        · have hr3 : ¬ ((r2 : Int) = 0) := by omega
          have hr4 : ((r2 : Int) != 0) = true := by simp; omega
          have HST : Hid (o 4 = ⟨fs2, dn2, fu2, r2⟩) := (HS.out 1 (by omega) (by rw [HQ.out]; exact hr2)).trans HQ.out
          clear hr2
          go_wp2
          refine bodyPost_disk rfl (w.heap.size + 1) (.slice a2 fs2.length c2) dn2 fu2 rfl rfl ?_ ?_ ?_ ?_
          case refine_1 => go_simp
          case refine_2 => go_simp
          case refine_3 => go_simp
          case refine_4 =>
            rw [HST.out]
            exact state_end HF2.out HH2.out HB2.out
      · obtain ⟨q0, q1, q2, q3, -⟩ := HRW.out
        have HK := Lib.hid (HA.out.c1 HR0.out wr g pF pT pC (.slice av (o 1).fs.length cv) HFL.out HRW.out)
        clear q0 q2 q3
        generalize hq : o 2 = o2 at *
        have HQ := Lib.hid hq
        clear hq
        go_wp2_with fail
        refine HK.out.mono ?_
        rintro e w2 ⟨v2, rfl, hf2, hh2, hb2⟩
        have HH2 := Lib.hid (hh2 _ (by omega) HHI.out)
        have HF2 := Lib.hid hf2
        obtain ⟨a2, c2, rfl⟩ := files_slice hf2
        have e0 := Dx.on HD.out hb2 hlt0
        have e1 := Dx.on HE.out hb2 hlt1
        obtain ⟨d0, d1, d2, d3, d4, d5⟩ := e0
        obtain ⟨x0, x1, x2, x3, x4, x5⟩ := e1
        have hz2 := hb2.size
        have HB2 := Lib.hid (HBW.out.trans (hb2.mono (by omega)))
        have HD2 := Lib.hid (Dx.on HD.out hb2 hlt0)
        have HE2 := Lib.hid (Dx.on HE.out hb2 hlt1)
        clear hf2 hh2 hb2
        rcases o2 with ⟨fs2, dn2, fu2, r2⟩
        simp only at *
        by_cases hr2 : r2 = 0
        · subst hr2
          go_wp2
          go_roundg gg
          case measure => omega
          case rel => exact ⟨2, .slice a2 fs2.length c2, by have := HG.out; omega, rfl, by show (o 2).r = 0; rw [HQ.out], by
            rw [HQ.out]
            exact state_next HD2.out HE2.out HF2.out HH2.out HB2.out (by omega)⟩
        · have hr3 : ¬ ((r2 : Int) = 0) := by omega
          have hr4 : ((r2 : Int) != 0) = true := by simp; omega
          have HST : Hid (o 4 = ⟨fs2, dn2, fu2, r2⟩) := (HS.out 2 (by omega) (by rw [HQ.out]; exact hr2)).trans HQ.out
          clear hr2
          go_wp2
          refine bodyPost_disk rfl (w.heap.size + 1) (.slice a2 fs2.length c2) dn2 fu2 rfl rfl ?_ ?_ ?_ ?_
          case refine_1 => go_simp
          case refine_2 => go_simp
          case refine_3 => go_simp
          case refine_4 =>
            rw [HST.out]
            exact state_end HF2.out HH2.out HB2.out
      · obtain ⟨q0, q1, q2, q3, -⟩ := HRW.out
        have HK := Lib.hid (HA.out.c2 HR0.out wr g pF pT pC (.slice av (o 2).fs.length cv) HFL.out HRW.out)
        clear q0 q1 q3
        generalize hq : o 3 = o2 at *
        have HQ := Lib.hid hq
        clear hq
        go_wp2_with fail
        refine HK.out.mono ?_
        rintro e w2 ⟨v2, rfl, hf2, hh2, hb2⟩
        have HH2 := Lib.hid (hh2 _ (by omega) HHI.out)
        have HF2 := Lib.hid hf2
        obtain ⟨a2, c2, rfl⟩ := files_slice hf2
        have e0 := Dx.on HD.out hb2 hlt0
        have e1 := Dx.on HE.out hb2 hlt1
        obtain ⟨d0, d1, d2, d3, d4, d5⟩ := e0
        obtain ⟨x0, x1, x2, x3, x4, x5⟩ := e1
        have hz2 := hb2.size
        have HB2 := Lib.hid (HBW.out.trans (hb2.mono (by omega)))
        have HD2 := Lib.hid (Dx.on HD.out hb2 hlt0)
        have HE2 := Lib.hid (Dx.on HE.out hb2 hlt1)
        clear hf2 hh2 hb2
        rcases o2 with ⟨fs2, dn2, fu2, r2⟩
        simp only at *
        by_cases hr2 : r2 = 0
        · subst hr2
          go_wp2
          go_roundg gg
          case measure => omega
          case rel => exact ⟨3, .slice a2 fs2.length c2, by have := HG.out; omega, rfl, by show (o 3).r = 0; rw [HQ.out], by
            rw [HQ.out]
            exact state_next HD2.out HE2.out HF2.out HH2.out HB2.out (by omega)⟩
        · have hr3 : ¬ ((r2 : Int) = 0) := by omega
          have hr4 : ((r2 : Int) != 0) = true := by simp; omega
          have HST : Hid (o 4 = ⟨fs2, dn2, fu2, r2⟩) := (HS.out 3 (by omega) (by rw [HQ.out]; exact hr2)).trans HQ.out
          clear hr2
          go_wp2
          refine bodyPost_disk rfl (w.heap.size + 1) (.slice a2 fs2.length c2) dn2 fu2 rfl rfl ?_ ?_ ?_ ?_
          case refine_1 => go_simp
          case refine_2 => go_simp
          case refine_3 => go_simp
          case refine_4 =>
            rw [HST.out]
            exact state_end HF2.out HH2.out HB2.out
      · obtain ⟨q0, q1, q2, q3, -⟩ := HRW.out
        have HK := Lib.hid (HA.out.c3 HR0.out wr g pF pT pC (.slice av (o 3).fs.length cv) HFL.out HRW.out)
        clear q0 q1 q2
        generalize hq : o 4 = o2 at *
        have HQ := Lib.hid hq
        clear hq
        go_wp2_with fail
        refine HK.out.mono ?_
        rintro e w2 ⟨v2, rfl, hf2, hh2, hb2⟩
        have HH2 := Lib.hid (hh2 _ (by omega) HHI.out)
        have HF2 := Lib.hid hf2
        obtain ⟨a2, c2, rfl⟩ := files_slice hf2
        have e0 := Dx.on HD.out hb2 hlt0
        have e1 := Dx.on HE.out hb2 hlt1
        obtain ⟨d0, d1, d2, d3, d4, d5⟩ := e0
        obtain ⟨x0, x1, x2, x3, x4, x5⟩ := e1
        have hz2 := hb2.size
        have HB2 := Lib.hid (HBW.out.trans (hb2.mono (by omega)))
        have HD2 := Lib.hid (Dx.on HD.out hb2 hlt0)
        have HE2 := Lib.hid (Dx.on HE.out hb2 hlt1)
        clear hf2 hh2 hb2
        rcases o2 with ⟨fs2, dn2, fu2, r2⟩
        simp only at *
        by_cases hr2 : r2 = 0
        · subst hr2
          go_wp2
          go_roundg gg
          case measure => omega
          case rel => exact ⟨4, .slice a2 fs2.length c2, by have := HG.out; omega, rfl, by show (o 4).r = 0; rw [HQ.out], by
            rw [HQ.out]
            exact state_next HD2.out HE2.out HF2.out HH2.out HB2.out (by omega)⟩
        · have hr3 : ¬ ((r2 : Int) = 0) := by omega
          have hr4 : ((r2 : Int) != 0) = true := by simp; omega
          have HST : Hid (True) := trivial
          clear hr2
          go_wp2
          refine bodyPost_disk rfl (w.heap.size + 1) (.slice a2 fs2.length c2) dn2 fu2 rfl rfl ?_ ?_ ?_ ?_
          case refine_1 => go_simp
          case refine_2 => go_simp
          case refine_3 => go_simp
          case refine_4 =>
            first | exact state_end HF2.out HH2.out HB2.out | (rw [HQ.out]; exact state_end HF2.out HH2.out HB2.out)
end Dk
end Go.Proofs.Ytpncflgcfndhmaa

/- SAVING a term and a vote: hard.Save. -/
namespace Go.Proofs.Ytpncflgcfndhmaa
open Go.RowKit Go.Lib Go.Sort
namespace Dk
def nH : ByteArray := ⟨#[104, 97, 114, 100]⟩
def nT : ByteArray := ⟨#[104, 97, 114, 100, 46, 116, 109, 112]⟩
theorem hi_none (B : Nat) (n c : Nat) : Hi B (.slice none n c) := fun b off m k e => by simp at e
set_option maxRecDepth 100000 in
set_option maxHeartbeats 4000000 in
theorem save_ok (dv : Value) (dn : Bool) (fu : Int) (fs : List Fl) (t v : Nat) (O : Out) (ht : t < 2 ^ 64) (hv : v ≤ 7)
    (HD : ∀ (x : World) (g pF pT pC : Nat), Files x x.heap.size dv fs → Rw x g pF pT pC nH nT (PM.bs (Hd.encL t v)) → Calls Try.prog 25 #[.agg #[dv, .bool dn, .int .i64 fu], .slice (some ⟨g, 0, none⟩) 4 4] x (DoW x (.slice none 0 0) O.fs O.dn O.fu O.r))
    (w : World) (hf : Files w w.heap.size dv fs) :
    Calls Try.prog 11 #[.agg #[dv, .bool dn, .int .i64 fu], .agg #[.int .u64 (t : Nat), .int .i64 (v : Nat)]] w (DoW w (.slice none 0 0) O.fs O.dn O.fu O.r) := by
  have HF := Lib.hid hf
  obtain ⟨a, c, rfl⟩ := files_slice hf
  have HCK := Lib.hid (fun w => Hd.check_any (t : Nat) (v : Nat) w)
  have hc0 : Hd.chkH (v : Nat) = 0 := by unfold Hd.chkH; rw [if_neg (by omega), if_neg (by omega)]
  rw [hc0] at HCK
  have HEN := Lib.hid (fun w => Hd.encode_any t v ht (by omega) w)
  have HRW := fun (da : ByteArray) w => rewrite_any nH nT da w
  generalize hn : fs.length = n at *
  rcases O with ⟨fs2, dn2, fu2, r2⟩
  simp only at HD ⊢
  generalize PM.bs (Hd.encL t v) = da at *
  have HDO := Lib.hid HD
  have HRE := Lib.hid (HRW da)
  clear hf hn HD HRW hc0
  unfold nH nT at HRE HDO
  have L0 : Hid (∀ z, (z.cell? ⟨w.heap.size, 0, none⟩ = some (.slice a n c) ∧ z.cell? ⟨w.heap.size, 1, none⟩ = some (.bool dn) ∧ z.cell? ⟨w.heap.size, 2, none⟩ = some (.int .i64 fu) ∧ z.cell? ⟨w.heap.size + 1, 0, none⟩ = some (.int .u64 (t : Nat)) ∧ z.cell? ⟨w.heap.size + 1, 1, none⟩ = some (.int .i64 (v : Nat)) ∧ Hid (Below w.heap.size w z ∧ w.heap.size + 3 ≤ z.heap.size)) → ∀ z', Below z.heap.size z z' → (z'.cell? ⟨w.heap.size, 0, none⟩ = some (.slice a n c) ∧ z'.cell? ⟨w.heap.size, 1, none⟩ = some (.bool dn) ∧ z'.cell? ⟨w.heap.size, 2, none⟩ = some (.int .i64 fu) ∧ z'.cell? ⟨w.heap.size + 1, 0, none⟩ = some (.int .u64 (t : Nat)) ∧ z'.cell? ⟨w.heap.size + 1, 1, none⟩ = some (.int .i64 (v : Nat)) ∧ Hid (Below w.heap.size w z' ∧ w.heap.size + 3 ≤ z'.heap.size))) := by
    intro z h z' hb
    obtain ⟨a0, a1, a2, b0, b1, hS⟩ := h
    have hz := hS.out.2
    have k0 : ∀ i, z'.cell? ⟨w.heap.size, i, none⟩ = z.cell? ⟨w.heap.size, i, none⟩ := fun i => hb.cell (by show w.heap.size < _; omega)
    have k1 : ∀ i, z'.cell? ⟨w.heap.size + 1, i, none⟩ = z.cell? ⟨w.heap.size + 1, i, none⟩ := fun i => hb.cell (by show w.heap.size + 1 < _; omega)
    have hE : Hid (Below w.heap.size w z' ∧ w.heap.size + 3 ≤ z'.heap.size) := ⟨hS.out.1.trans (hb.mono (by omega)), by have := hb.size; omega⟩
    simp only [k0, k1]
    exact ⟨a0, a1, a2, b0, b1, hE⟩
  have LT : Hid (∀ z u0 u1 u2, (z.cell? ⟨w.heap.size, 0, none⟩ = some (.slice a n c) ∧ z.cell? ⟨w.heap.size, 1, none⟩ = some (.bool dn) ∧ z.cell? ⟨w.heap.size, 2, none⟩ = some (.int .i64 fu) ∧ z.cell? ⟨w.heap.size + 1, 0, none⟩ = some (.int .u64 (t : Nat)) ∧ z.cell? ⟨w.heap.size + 1, 1, none⟩ = some (.int .i64 (v : Nat)) ∧ Hid (Below w.heap.size w z ∧ w.heap.size + 3 ≤ z.heap.size)) → ((((z.setCell ⟨w.heap.size + 1 + 1, 0, none⟩ u0).setCell ⟨w.heap.size + 1 + 1, 1, none⟩ u1).setCell ⟨w.heap.size + 1 + 1, 2, none⟩ u2).cell? ⟨w.heap.size, 0, none⟩ = some (.slice a n c) ∧ (((z.setCell ⟨w.heap.size + 1 + 1, 0, none⟩ u0).setCell ⟨w.heap.size + 1 + 1, 1, none⟩ u1).setCell ⟨w.heap.size + 1 + 1, 2, none⟩ u2).cell? ⟨w.heap.size, 1, none⟩ = some (.bool dn) ∧ (((z.setCell ⟨w.heap.size + 1 + 1, 0, none⟩ u0).setCell ⟨w.heap.size + 1 + 1, 1, none⟩ u1).setCell ⟨w.heap.size + 1 + 1, 2, none⟩ u2).cell? ⟨w.heap.size, 2, none⟩ = some (.int .i64 fu) ∧ (((z.setCell ⟨w.heap.size + 1 + 1, 0, none⟩ u0).setCell ⟨w.heap.size + 1 + 1, 1, none⟩ u1).setCell ⟨w.heap.size + 1 + 1, 2, none⟩ u2).cell? ⟨w.heap.size + 1, 0, none⟩ = some (.int .u64 (t : Nat)) ∧ (((z.setCell ⟨w.heap.size + 1 + 1, 0, none⟩ u0).setCell ⟨w.heap.size + 1 + 1, 1, none⟩ u1).setCell ⟨w.heap.size + 1 + 1, 2, none⟩ u2).cell? ⟨w.heap.size + 1, 1, none⟩ = some (.int .i64 (v : Nat)) ∧ Hid (Below w.heap.size w (((z.setCell ⟨w.heap.size + 1 + 1, 0, none⟩ u0).setCell ⟨w.heap.size + 1 + 1, 1, none⟩ u1).setCell ⟨w.heap.size + 1 + 1, 2, none⟩ u2) ∧ w.heap.size + 3 ≤ (((z.setCell ⟨w.heap.size + 1 + 1, 0, none⟩ u0).setCell ⟨w.heap.size + 1 + 1, 1, none⟩ u1).setCell ⟨w.heap.size + 1 + 1, 2, none⟩ u2).heap.size))) := by
    intro z u0 u1 u2 h
    obtain ⟨a0, a1, a2, b0, b1, hS⟩ := h
    have k : ∀ b i, b < w.heap.size + 2 → (((z.setCell ⟨w.heap.size + 1 + 1, 0, none⟩ u0).setCell ⟨w.heap.size + 1 + 1, 1, none⟩ u1).setCell ⟨w.heap.size + 1 + 1, 2, none⟩ u2).cell? ⟨b, i, none⟩ = z.cell? ⟨b, i, none⟩ := by
      intro b i hb
      have hne : ∀ j, (⟨w.heap.size + 1 + 1, j, none⟩ : Addr) ≠ ⟨b, i, none⟩ := fun j e => by injection e with e1; omega
      rw [World.cell?_setCell_other _ _ _ _ (hne 2), World.cell?_setCell_other _ _ _ _ (hne 1), World.cell?_setCell_other _ _ _ _ (hne 0)]
    have hE : Hid (Below w.heap.size w (((z.setCell ⟨w.heap.size + 1 + 1, 0, none⟩ u0).setCell ⟨w.heap.size + 1 + 1, 1, none⟩ u1).setCell ⟨w.heap.size + 1 + 1, 2, none⟩ u2) ∧ w.heap.size + 3 ≤ (((z.setCell ⟨w.heap.size + 1 + 1, 0, none⟩ u0).setCell ⟨w.heap.size + 1 + 1, 1, none⟩ u1).setCell ⟨w.heap.size + 1 + 1, 2, none⟩ u2).heap.size) := ⟨below3 hS.out.1 (by omega), by have := hS.out.2; simpa using this⟩
    rw [k _ _ (by omega), k _ _ (by omega), k _ _ (by omega), k _ _ (by omega), k _ _ (by omega)]
    exact ⟨a0, a1, a2, b0, b1, hE⟩
  have KB : Hid (∀ z, (z.cell? ⟨w.heap.size, 0, none⟩ = some (.slice a n c) ∧ z.cell? ⟨w.heap.size, 1, none⟩ = some (.bool dn) ∧ z.cell? ⟨w.heap.size, 2, none⟩ = some (.int .i64 fu) ∧ z.cell? ⟨w.heap.size + 1, 0, none⟩ = some (.int .u64 (t : Nat)) ∧ z.cell? ⟨w.heap.size + 1, 1, none⟩ = some (.int .i64 (v : Nat)) ∧ Hid (Below w.heap.size w z ∧ w.heap.size + 3 ≤ z.heap.size)) → Below w.heap.size w z ∧ w.heap.size + 3 ≤ z.heap.size) := fun z h => h.2.2.2.2.2.out
  have LD : Hid (∀ z, Below (((w.alloc (.cells #[.slice a n c, .bool dn, .int .i64 fu] 24)).alloc (.cells #[.int .u64 (t : Nat), .int .i64 (v : Nat)] 27)).alloc (.cells #[.slice none 0 0, .bool false, .int .i64 0] 24)).heap.size (((w.alloc (.cells #[.slice a n c, .bool dn, .int .i64 fu] 24)).alloc (.cells #[.int .u64 (t : Nat), .int .i64 (v : Nat)] 27)).alloc (.cells #[.slice none 0 0, .bool false, .int .i64 0] 24)) z → (z.cell? ⟨w.heap.size, 0, none⟩ = some (.slice a n c) ∧ z.cell? ⟨w.heap.size, 1, none⟩ = some (.bool dn) ∧ z.cell? ⟨w.heap.size, 2, none⟩ = some (.int .i64 fu) ∧ z.cell? ⟨w.heap.size + 1, 0, none⟩ = some (.int .u64 (t : Nat)) ∧ z.cell? ⟨w.heap.size + 1, 1, none⟩ = some (.int .i64 (v : Nat)) ∧ Hid (Below w.heap.size w z ∧ w.heap.size + 3 ≤ z.heap.size)) ∧ (z.cell? ⟨w.heap.size + 1 + 1, 0, none⟩ = some (.slice none 0 0) ∧ z.cell? ⟨w.heap.size + 1 + 1, 1, none⟩ = some (.bool false) ∧ z.cell? ⟨w.heap.size + 1 + 1, 2, none⟩ = some (.int .i64 0) ∧ z.frozen? ⟨w.heap.size + 1 + 1, 0, none⟩ = false ∧ z.frozen? ⟨w.heap.size + 1 + 1, 1, none⟩ = false ∧ z.frozen? ⟨w.heap.size + 1 + 1, 2, none⟩ = false)) := by
    intro z hb
    refine ⟨⟨?_, ?_, ?_, ?_, ?_, ⟨((((Below.refl _ _).alloc (Nat.le_refl _) _).alloc (by simp) _).alloc (by simp; omega) _).trans (hb.mono (by simp; omega)), by have := hb.size; simp at this; omega⟩⟩, ?_, ?_, ?_, ?_, ?_, ?_⟩
    all_goals first
      | (rw [hb.cell (by simp <;> omega)]; simp [go_sem])
      | (rw [hb.frozen (by simp <;> omega)]; simp [go_sem])
  go_enter Try.func11, Try.ntmps11
  go_wp2_with fail
  refine (HCK.out _).mono ?_
  rintro e w1 ⟨rfl, hb⟩
  have HS1 := Lib.hid (LD.out _ hb).1
  have HR1 := Lib.hid (LD.out _ hb).2
  have hz1 := (KB.out _ HS1.out).2
  have KE : Hid (∀ z, (z.cell? ⟨w.heap.size, 0, none⟩ = some (.slice a n c) ∧ z.cell? ⟨w.heap.size, 1, none⟩ = some (.bool dn) ∧ z.cell? ⟨w.heap.size, 2, none⟩ = some (.int .i64 fu) ∧ z.cell? ⟨w.heap.size + 1, 0, none⟩ = some (.int .u64 (t : Nat)) ∧ z.cell? ⟨w.heap.size + 1, 1, none⟩ = some (.int .i64 (v : Nat)) ∧ Hid (Below w.heap.size w z ∧ w.heap.size + 3 ≤ z.heap.size)) → Hid (Below w1.heap.size w1 z) → Calls Try.prog 27 #[.agg #[.int .u64 (t : Nat), .int .i64 (v : Nat)]] z fun e z' => e = .returned (.string da) ∧ Hid (Below w1.heap.size w1 z') ∧ (z'.cell? ⟨w.heap.size, 0, none⟩ = some (.slice a n c) ∧ z'.cell? ⟨w.heap.size, 1, none⟩ = some (.bool dn) ∧ z'.cell? ⟨w.heap.size, 2, none⟩ = some (.int .i64 fu) ∧ z'.cell? ⟨w.heap.size + 1, 0, none⟩ = some (.int .u64 (t : Nat)) ∧ z'.cell? ⟨w.heap.size + 1, 1, none⟩ = some (.int .i64 (v : Nat)) ∧ Hid (Below w.heap.size w z' ∧ w.heap.size + 3 ≤ z'.heap.size))) := fun z h hw => (HEN.out z).mono fun e z' ⟨he, hb⟩ => ⟨he, hw.out.trans (hb.mono hw.out.size), L0.out z h z' hb⟩
  have KR : Hid (∀ z, (z.cell? ⟨w.heap.size, 0, none⟩ = some (.slice a n c) ∧ z.cell? ⟨w.heap.size, 1, none⟩ = some (.bool dn) ∧ z.cell? ⟨w.heap.size, 2, none⟩ = some (.int .i64 fu) ∧ z.cell? ⟨w.heap.size + 1, 0, none⟩ = some (.int .u64 (t : Nat)) ∧ z.cell? ⟨w.heap.size + 1, 1, none⟩ = some (.int .i64 (v : Nat)) ∧ Hid (Below w.heap.size w z ∧ w.heap.size + 3 ≤ z.heap.size)) → Hid (Below w1.heap.size w1 z) → Calls Try.prog 26 #[.string ⟨#[104, 97, 114, 100]⟩, .string ⟨#[104, 97, 114, 100, 46, 116, 109, 112]⟩, .string da] z fun e z' => ∃ g pF pT pC, e = .returned (.slice (some ⟨g, 0, none⟩) 4 4) ∧ Hid (Rw z' g pF pT pC ⟨#[104, 97, 114, 100]⟩ ⟨#[104, 97, 114, 100, 46, 116, 109, 112]⟩ da) ∧ Hid (Below w1.heap.size w1 z') ∧ (z'.cell? ⟨w.heap.size, 0, none⟩ = some (.slice a n c) ∧ z'.cell? ⟨w.heap.size, 1, none⟩ = some (.bool dn) ∧ z'.cell? ⟨w.heap.size, 2, none⟩ = some (.int .i64 fu) ∧ z'.cell? ⟨w.heap.size + 1, 0, none⟩ = some (.int .u64 (t : Nat)) ∧ z'.cell? ⟨w.heap.size + 1, 1, none⟩ = some (.int .i64 (v : Nat)) ∧ Hid (Below w.heap.size w z' ∧ w.heap.size + 3 ≤ z'.heap.size))) := fun z h hw => (HRE.out z).mono fun e z' ⟨g, pF, pT, pC, he, hr, hb⟩ => ⟨g, pF, pT, pC, he, hr, hw.out.trans (hb.mono hw.out.size), L0.out z h z' hb⟩
  have KO : Hid (∀ (g pF pT pC : Nat) z, (z.cell? ⟨w.heap.size, 0, none⟩ = some (.slice a n c) ∧ z.cell? ⟨w.heap.size, 1, none⟩ = some (.bool dn) ∧ z.cell? ⟨w.heap.size, 2, none⟩ = some (.int .i64 fu) ∧ z.cell? ⟨w.heap.size + 1, 0, none⟩ = some (.int .u64 (t : Nat)) ∧ z.cell? ⟨w.heap.size + 1, 1, none⟩ = some (.int .i64 (v : Nat)) ∧ Hid (Below w.heap.size w z ∧ w.heap.size + 3 ≤ z.heap.size)) → Hid (Below w1.heap.size w1 z) → Hid (Rw z g pF pT pC ⟨#[104, 97, 114, 100]⟩ ⟨#[104, 97, 114, 100, 46, 116, 109, 112]⟩ da) → Calls Try.prog 25 #[.agg #[.slice a n c, .bool dn, .int .i64 fu], .slice (some ⟨g, 0, none⟩) 4 4] z fun e z' => ∃ (a5 : Option Addr) (c5 : Nat), e = .returned (.tuple #[.agg #[.slice a5 fs2.length c5, .bool dn2, .int .i64 fu2], .int .i64 (r2 : Nat)]) ∧ Hid (Files z' z'.heap.size (.slice a5 fs2.length c5) fs2 ∧ Hi (w.heap.size + 3) (.slice a5 fs2.length c5)) ∧ (z'.cell? ⟨w.heap.size + 1 + 1, 0, none⟩ = some (.slice none 0 0) ∧ z'.cell? ⟨w.heap.size + 1 + 1, 1, none⟩ = some (.bool false) ∧ z'.cell? ⟨w.heap.size + 1 + 1, 2, none⟩ = some (.int .i64 0) ∧ z'.frozen? ⟨w.heap.size + 1 + 1, 0, none⟩ = false ∧ z'.frozen? ⟨w.heap.size + 1 + 1, 1, none⟩ = false ∧ z'.frozen? ⟨w.heap.size + 1 + 1, 2, none⟩ = false) ∧ (z'.cell? ⟨w.heap.size, 0, none⟩ = some (.slice a n c) ∧ z'.cell? ⟨w.heap.size, 1, none⟩ = some (.bool dn) ∧ z'.cell? ⟨w.heap.size, 2, none⟩ = some (.int .i64 fu) ∧ z'.cell? ⟨w.heap.size + 1, 0, none⟩ = some (.int .u64 (t : Nat)) ∧ z'.cell? ⟨w.heap.size + 1, 1, none⟩ = some (.int .i64 (v : Nat)) ∧ Hid (Below w.heap.size w z' ∧ w.heap.size + 3 ≤ z'.heap.size))) := by
    intro g pF pT pC z h hw hr
    obtain ⟨hb0, hz0⟩ := KB.out z h
    refine (HDO.out z g pF pT pC (HF.out.on hb0 (by omega)) hr.out).mono ?_
    rintro e z' ⟨v5, rfl, hf5, hh5, hb⟩
    obtain ⟨a5, c5, rfl⟩ := files_slice hf5
    have hb9 : Below w1.heap.size w1 z' := hw.out.trans (hb.mono hw.out.size)
    have k2 : ∀ i, z'.cell? ⟨w.heap.size + 1 + 1, i, none⟩ = w1.cell? ⟨w.heap.size + 1 + 1, i, none⟩ := fun i => hb9.cell (by show w.heap.size + 1 + 1 < _; omega)
    have k3 : ∀ i, z'.frozen? ⟨w.heap.size + 1 + 1, i, none⟩ = w1.frozen? ⟨w.heap.size + 1 + 1, i, none⟩ := fun i => hb9.frozen (by show w.heap.size + 1 + 1 < _; omega)
    refine ⟨a5, c5, rfl, ⟨hf5, hh5 _ hz0 (hi_none _ _ _)⟩, ?_, L0.out z h z' hb⟩
    simp only [k2, k3]
    exact HR1.out
  have KD : Hid (w1.drew.cell? ⟨w.heap.size, 0, none⟩ = some (.slice a n c) ∧ w1.drew.cell? ⟨w.heap.size, 1, none⟩ = some (.bool dn) ∧ w1.drew.cell? ⟨w.heap.size, 2, none⟩ = some (.int .i64 fu) ∧ w1.drew.cell? ⟨w.heap.size + 1, 0, none⟩ = some (.int .u64 (t : Nat)) ∧ w1.drew.cell? ⟨w.heap.size + 1, 1, none⟩ = some (.int .i64 (v : Nat)) ∧ Hid (Below w.heap.size w w1.drew ∧ w.heap.size + 3 ≤ w1.drew.heap.size)) := by
    obtain ⟨a0, a1, a2, b0, b1, hS⟩ := HS1.out
    exact ⟨a0, a1, a2, b0, b1, ⟨bdN hS.out.1 1, hS.out.2⟩⟩
  have KW : Hid (Below w1.heap.size w1 w1.drew) := (Below.refl _ _).drew
  clear hb LD L0 HEN HRE HDO
  go_wp2
  go_region_held3 (fun z => (z.cell? ⟨w.heap.size, 0, none⟩ = some (.slice a n c) ∧ z.cell? ⟨w.heap.size, 1, none⟩ = some (.bool dn) ∧ z.cell? ⟨w.heap.size, 2, none⟩ = some (.int .i64 fu) ∧ z.cell? ⟨w.heap.size + 1, 0, none⟩ = some (.int .u64 (t : Nat)) ∧ z.cell? ⟨w.heap.size + 1, 1, none⟩ = some (.int .i64 (v : Nat)) ∧ Hid (Below w.heap.size w z ∧ w.heap.size + 3 ≤ z.heap.size))) (first | assumption | exact KD.out | exact LT.out _ _ _ _ (by assumption))
    (first
      | (go_at_call 27; go_loud ((with_reducible refine (KE.out _ ?_ ?_).mono ?_); assumption; assumption; rintro e w7 ⟨rfl, hW7, hS⟩))
      | (go_at_call 26; go_loud ((with_reducible refine (KR.out _ ?_ ?_).mono ?_); assumption; assumption; rintro e w8 ⟨g, pF, pT, pC, rfl, hRw, hW8, hS⟩))
      | (go_at_call 25; go_loud ((with_reducible refine (KO.out _ _ _ _ _ ?_ ?_ hRw).mono ?_); assumption; assumption; rintro e w9 ⟨a5, c5, rfl, hF5, ⟨x0, x1, x2, x3, x4, x5⟩, hS⟩)))
  all_goals
    go_wp2
    refine bodyPost_disk rfl (w.heap.size + 1 + 1) (.slice a5 fs2.length c5) dn2 fu2 rfl rfl ?_ ?_ ?_ ?_
    case refine_1 => go_simp
    case refine_2 => go_simp
    case refine_3 => go_simp
    case refine_4 => exact ⟨_, rfl, hF5.out.1.put3 hF5.out.2 (by omega), fun B hB _ => hF5.out.2.le (by omega), below3 (KB.out w9 (by assumption)).1 (by omega)⟩
end Dk
end Go.Proofs.Ytpncflgcfndhmaa

/- LOADING a term and a vote: hard.Load. -/
namespace Go.Proofs.Ytpncflgcfndhmaa
open Go.RowKit Go.Lib Go.Sort
namespace Dk
def nHd : ByteArray := ⟨#[104, 97, 114, 100]⟩
def ldT (fs : List Fl) (dn : Bool) : Nat := if rdE fs dn nHd = 0 then Hd.dcT (rdS fs dn nHd).data.toList else 0
def ldV (fs : List Fl) (dn : Bool) : Nat := if rdE fs dn nHd = 0 then Hd.dcV (rdS fs dn nHd).data.toList else 0
def ldE (fs : List Fl) (dn : Bool) : Nat := if rdE fs dn nHd = 0 then Hd.dcE (rdS fs dn nHd).data.toList else if rdE fs dn nHd = 6 then 0 else rdE fs dn nHd
def LoadIs (fs : List Fl) (dn : Bool) (e : Ending) : Prop := e = .returned (.tuple #[.agg #[.int .u64 (ldT fs dn : Nat), .int .i64 (ldV fs dn : Nat)], .int .i64 (ldE fs dn : Nat)])
theorem LoadIs.none_ {fs : List Fl} {dn : Bool} (h : rdE fs dn nHd = 6) : LoadIs fs dn (.returned (.tuple #[.agg #[.int .u64 0, .int .i64 0], .int .i64 0])) := by
  unfold LoadIs ldT ldV ldE
  rw [h]; rfl
theorem LoadIs.bad {fs : List Fl} {dn : Bool} (h : rdE fs dn nHd ≠ 6) (h0 : rdE fs dn nHd ≠ 0) : LoadIs fs dn (.returned (.tuple #[.agg #[.int .u64 0, .int .i64 0], .int .i64 (rdE fs dn nHd : Nat)])) := by
  unfold LoadIs ldT ldV ldE
  rw [if_neg h0, if_neg h0, if_neg h0, if_neg h]; rfl
theorem rdS_size (fs : List Fl) (dn : Bool) (nm : ByteArray) (hf : Fine fs) : (rdS fs dn nm).size ≤ maxLen := by
  unfold rdS
  split
  · cases hl : fs[idxN fs nm]? with
    | none => exact Nat.zero_le _
    | some f => exact (hf f (List.mem_of_getElem? hl)).1
  · exact Nat.zero_le _
set_option maxHeartbeats 1000000 in
theorem load_any (dv : Value) (dn : Bool) (fu : Int) (fs : List Fl) (w : World) (hf : Files w w.heap.size dv fs) :
    Calls Try.prog 9 #[.agg #[dv, .bool dn, .int .i64 fu]] w fun e w' => LoadIs fs dn e ∧ Below w.heap.size w w' := by
  have h1 := fun w hw => read_own dv dn fu fs nHd w hw
  have HF := Lib.hid hf
  have hfine := hf.fine
  obtain ⟨a, c, rfl, -⟩ := hf
  unfold ReadIs at h1
  have HR := Lib.hid (h1 _ ((HF.out.al (.cells #[.slice a fs.length c, .bool dn, .int .i64 fu] 24)).al (.cells #[.int .u64 0, .int .i64 0] 27)))
  unfold nHd at HR
  have hsz := rdS_size fs dn nHd hfine
  clear h1 hfine
  by_cases h0 : rdE fs dn nHd = 0
  · have HG : Hid (∀ e, Hd.DecIs (rdS fs dn nHd).data.toList e → LoadIs fs dn e) := by
      intro e he
      unfold LoadIs ldT ldV ldE
      rw [if_pos h0, if_pos h0, if_pos h0]
      exact he
    have HDC := Lib.hid (fun w => Hd.decode_any (rdS fs dn nHd) w hsz)
    unfold Hd.DecIs at HDC HG
    have h0' : rdE fs dn ⟨#[104, 97, 114, 100]⟩ = 0 := h0
    rw [h0'] at HR
    have e9 : rdS fs dn ⟨#[104, 97, 114, 100]⟩ = rdS fs dn nHd := rfl
    rw [e9] at HR
    clear h0 h0' hsz e9
    generalize rdS fs dn nHd = s at *
    generalize Hd.dcT s.data.toList = t at *
    generalize Hd.dcV s.data.toList = v at *
    generalize Hd.dcE s.data.toList = de at *
    go_enter Try.func9, Try.ntmps9
    go_wp2_with fail
    refine HR.out.mono ?_
    rintro e w1 ⟨rfl, hb⟩
    have d0 : w1.cell? ⟨w.heap.size + 1, 0, none⟩ = some (.int .u64 0) := by rw [hb.cell (by simp)]; simp [go_sem]
    have d1 : w1.cell? ⟨w.heap.size + 1, 1, none⟩ = some (.int .i64 0) := by rw [hb.cell (by simp)]; simp [go_sem]
    have f0 : w1.frozen? ⟨w.heap.size + 1, 0, none⟩ = false := by rw [hb.frozen (by simp)]; simp [go_sem]
    have f1 : w1.frozen? ⟨w.heap.size + 1, 1, none⟩ = false := by rw [hb.frozen (by simp)]; simp [go_sem]
    have hz := hb.size
    simp at hz
    have HB := Lib.hid ((((Below.refl w.heap.size w).alloc (Nat.le_refl _) _).alloc (by simp) _).trans (hb.mono (by simp; omega)))
    clear hb
    go_wp2_with fail
    refine (HDC.out _).mono ?_
    rintro e w2 ⟨rfl, hb⟩
    have k0 := (hb.cell (p := ⟨w.heap.size + 1, 0, none⟩) (by show w.heap.size + 1 < _; omega)).trans d0
    have k1 := (hb.cell (p := ⟨w.heap.size + 1, 1, none⟩) (by show w.heap.size + 1 < _; omega)).trans d1
    have l0 := (hb.frozen (p := ⟨w.heap.size + 1, 0, none⟩) (by show w.heap.size + 1 < _; omega)).trans f0
    have l1 := (hb.frozen (p := ⟨w.heap.size + 1, 1, none⟩) (by show w.heap.size + 1 < _; omega)).trans f1
    have HB2 := Lib.hid (HB.out.trans (hb.mono (by omega)))
    clear hb d0 d1 f0 f1
    go_wp2
    refine Hd.bodyPost_hard rfl (w.heap.size + 1) t v rfl rfl ?_ ?_ ?_
    case refine_1 => go_simp
    case refine_2 => go_simp
    case refine_3 => exact ⟨HG.out _ rfl, bset (bset HB2.out (by show w.heap.size ≤ w.heap.size + 1; omega) _) (by show w.heap.size ≤ w.heap.size + 1; omega) _⟩
  · by_cases h6 : rdE fs dn nHd = 6
    · have HN := Lib.hid (LoadIs.none_ h6)
      have h6' : rdE fs dn ⟨#[104, 97, 114, 100]⟩ = 6 := h6
      rw [h6'] at HR
      clear h0 h6 h6' hsz
      generalize rdS fs dn ⟨#[104, 97, 114, 100]⟩ = s at *
      go_enter Try.func9, Try.ntmps9
      go_wp2_with fail
      refine HR.out.mono ?_
      rintro e w1 ⟨rfl, hb⟩
      have d0 : w1.cell? ⟨w.heap.size + 1, 0, none⟩ = some (.int .u64 0) := by rw [hb.cell (by simp)]; simp [go_sem]
      have d1 : w1.cell? ⟨w.heap.size + 1, 1, none⟩ = some (.int .i64 0) := by rw [hb.cell (by simp)]; simp [go_sem]
      have f0 : w1.frozen? ⟨w.heap.size + 1, 0, none⟩ = false := by rw [hb.frozen (by simp)]; simp [go_sem]
      have f1 : w1.frozen? ⟨w.heap.size + 1, 1, none⟩ = false := by rw [hb.frozen (by simp)]; simp [go_sem]
      have HB := Lib.hid ((((Below.refl w.heap.size w).alloc (Nat.le_refl _) _).alloc (by simp) _).trans (hb.mono (by simp; omega)))
      clear hb
      go_wp2
      refine Hd.bodyPost_hard rfl (w.heap.size + 1) 0 0 rfl rfl ?_ ?_ ?_
      case refine_1 => go_simp
      case refine_2 => go_simp
      case refine_3 => exact ⟨HN.out, bset (bset HB.out (by show w.heap.size ≤ w.heap.size + 1; omega) _) (by show w.heap.size ≤ w.heap.size + 1; omega) _⟩
    · have HN := Lib.hid (LoadIs.bad h6 h0)
      have e9 : rdE fs dn ⟨#[104, 97, 114, 100]⟩ = rdE fs dn nHd := rfl
      rw [e9] at HR
      have h0' : ¬ ((rdE fs dn nHd : Int) = 0) := by omega
      have h6' : ¬ ((rdE fs dn nHd : Int) = 6) := by omega
      have h0'' : (((rdE fs dn nHd : Nat) : Int) == 0) = false := by simp; omega
      have h6'' : (((rdE fs dn nHd : Nat) : Int) == 6) = false := by simp; omega
      clear h0 h6 hsz e9
      generalize rdS fs dn ⟨#[104, 97, 114, 100]⟩ = s at *
      generalize rdE fs dn nHd = re at *
      go_enter Try.func9, Try.ntmps9
      go_wp2_with fail
      refine HR.out.mono ?_
      rintro e w1 ⟨rfl, hb⟩
      have d0 : w1.cell? ⟨w.heap.size + 1, 0, none⟩ = some (.int .u64 0) := by rw [hb.cell (by simp)]; simp [go_sem]
      have d1 : w1.cell? ⟨w.heap.size + 1, 1, none⟩ = some (.int .i64 0) := by rw [hb.cell (by simp)]; simp [go_sem]
      have f0 : w1.frozen? ⟨w.heap.size + 1, 0, none⟩ = false := by rw [hb.frozen (by simp)]; simp [go_sem]
      have f1 : w1.frozen? ⟨w.heap.size + 1, 1, none⟩ = false := by rw [hb.frozen (by simp)]; simp [go_sem]
      have HB := Lib.hid ((((Below.refl w.heap.size w).alloc (Nat.le_refl _) _).alloc (by simp) _).trans (hb.mono (by simp; omega)))
      clear hb
      go_wp2
      refine Hd.bodyPost_hard rfl (w.heap.size + 1) 0 0 rfl rfl ?_ ?_ ?_
      case refine_1 => go_simp
      case refine_2 => go_simp
      case refine_3 => exact ⟨HN.out, bset (bset HB.out (by show w.heap.size ≤ w.heap.size + 1; omega) _) (by show w.heap.size ≤ w.heap.size + 1; omega) _⟩
end Dk
end Go.Proofs.Ytpncflgcfndhmaa
