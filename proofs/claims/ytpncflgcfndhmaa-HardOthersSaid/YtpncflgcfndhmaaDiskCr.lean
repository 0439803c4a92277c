/-
  Crash as a whole, the program's and the document's; variables that hold what a call answered; LAW: DiskCrashes.
-/
import Derived.Test.YtpncflgcfndhmaaDiskCrashT
import Derived.Test.YtpncflgcfndhmaaDiskAsks
namespace Go.Proofs.Ytpncflgcfndhmaa
open Go.RowKit Go.Lib Go.Sort
namespace Dk
def crV (fs : List Fl) (ks : List Int) : List Fl := if chkN fs = 0 then crS fs ks fs.length else []
def crU (fs : List Fl) : Int := if chkN fs = 0 then -1 else 0
def crE (fs : List Fl) : Nat := if chkN fs = 0 then 0 else 10
theorem crash_all (v kv : Value) (dn : Bool) (fu : Int) (fs : List Fl) (ks : List Int) (w : World) (hv : Files w w.heap.size v fs) (hk : Ints w w.heap.size kv ks) :
    Calls Try.prog 17 #[.agg #[v, .bool dn, .int .i64 fu], kv] w (DoIs w (crV fs ks) false (crU fs) (crE fs)) := by
  unfold crV crU crE
  by_cases h : chkN fs = 0
  · rw [if_pos h, if_pos h, if_pos h]; exact crash_own v kv dn fu fs ks w hv hk h
  · rw [if_neg h, if_neg h, if_neg h]; exact crash_bad v kv dn fu fs w hv h
theorem crN_le (f : Fl) (o : Option Int) (h : 0 ≤ f.sy ∧ f.sy ≤ f.da.size) : f.sy ≤ (crN f o : Nat) ∧ crN f o ≤ f.da.size := by
  unfold crN
  cases o with
  | none => simp; omega
  | some k =>
    simp only
    split
    · omega
    · split <;> omega
theorem crM_at (fs : List Fl) (ks : List Int) (k i : Nat) (h : i < k) (hk : k ≤ fs.length) : (crM fs ks k)[i]'(by rw [crM_len]; exact h) = crF (fs[i]'(by omega)) (crN (fs[i]'(by omega)) ks[i]?) := by
  simp only [crM, List.getElem_map, List.getElem_range]
  rw [List.getElem?_eq_getElem (by omega)]
theorem crV_fine (fs : List Fl) (ks : List Int) (hf : Fine fs) : Fine (crV fs ks) := by
  unfold crV
  by_cases h : chkN fs = 0
  · rw [if_pos h, crS_crM]
    intro f hm
    obtain ⟨i, hi, rfl⟩ := List.getElem_of_mem hm
    rw [crM_len] at hi
    rw [crM_at fs ks _ i hi (Nat.le_refl _)]
    have h1 := sy_fine fs (chk_fine fs h).2 i hi
    have h2 := crN_le fs[i] ks[i]? h1
    have h3 := (hf _ (List.getElem_mem hi)).1
    simp only [crF, maxLen] at *
    refine ⟨?_, by omega, by omega⟩
    rw [ByteArray.size_extract]
    omega
  · rw [if_neg h]; intro f hm; simp at hm
theorem crV_len (fs : List Fl) (ks : List Int) (hl : fs.length ≤ 4611686018427387904) : (crV fs ks).length ≤ 4611686018427387904 := by
  unfold crV
  split
  · rw [crS_len]; exact hl
  · simp
theorem Ints.keep {w w' : World} {B : Nat} {v : Value} {ks : List Int} (h : Ints w B v ks) (hb : Below B w w') : Ints w' B v ks := by
  obtain ⟨a, c, rfl, h1, h2, h3⟩ := h
  refine ⟨a, c, rfl, h1, h2, fun hp => ?_⟩
  obtain ⟨b, off, rfl, hlt, hc⟩ := h3 hp
  exact ⟨b, off, rfl, hlt, fun i hi => (hb.cell (by exact hlt)).trans (hc i hi)⟩
theorem Ints.more {w : World} {B B' : Nat} {v : Value} {ks : List Int} (h : Ints w B v ks) (hb : B ≤ B') : Ints w B' v ks := by
  obtain ⟨a, c, rfl, h1, h2, h3⟩ := h
  refine ⟨a, c, rfl, h1, h2, fun hp => ?_⟩
  obtain ⟨b, off, rfl, hlt, hc⟩ := h3 hp
  exact ⟨b, off, rfl, by omega, hc⟩
theorem Ints.on {w w' : World} {v : Value} {ks : List Int} (h : Ints w w.heap.size v ks) (hb : Below w.heap.size w w') : Ints w' w'.heap.size v ks := (h.keep hb).more hb.size
theorem Files.fine {w : World} {B : Nat} {v : Value} {fs : List Fl} (h : Files w B v fs) : Fine fs := by obtain ⟨_, _, _, _, h, _⟩ := h; exact h
theorem Files.len {w : World} {B : Nat} {v : Value} {fs : List Fl} (h : Files w B v fs) : fs.length ≤ 4611686018427387904 := by obtain ⟨_, _, _, h, _⟩ := h; exact h
/-- What a copy leaves, laid into a variable of its own. -/
theorem CopyIs.var {w x x' : World} {fs : List Fl} {dn : Bool} {fu : Int} {e : Ending} (h : CopyIs x fs dn fu e x') (hw : Below w.heap.size w x) (hf : Fine fs) (hl : fs.length ≤ 4611686018427387904) :
    ∃ a c, e = .returned (.agg #[.slice a fs.length c, .bool dn, .int .i64 fu]) ∧ Below x.heap.size x x' ∧ St w x'.heap.size (x'.alloc (.cells #[.slice a fs.length c, .bool dn, .int .i64 fu] 24)) (.slice a fs.length c) dn fu fs := by
  obtain ⟨v', rfl, ho, hb⟩ := h
  obtain ⟨a, c, rfl⟩ := ho.slice
  exact ⟨a, c, rfl, hb, Nat.le_trans hw.size hb.size, by simp, (hw.trans (hb.mono hw.size)).alloc (Nat.le_trans hw.size hb.size) _, Dx.made _ _ _ _, (ho.files hf hl).al _⟩
theorem DoIs.var {w x x' : World} {fs : List Fl} {dn : Bool} {fu : Int} {r : Nat} {e : Ending} (h : DoIs x fs dn fu r e x') (hw : Below w.heap.size w x) (hf : Fine fs) (hl : fs.length ≤ 4611686018427387904) :
    ∃ a c, e = .returned (.tuple #[.agg #[.slice a fs.length c, .bool dn, .int .i64 fu], .int .i64 (r : Nat)]) ∧ Below x.heap.size x x' ∧ St w x'.heap.size (x'.alloc (.cells #[.slice a fs.length c, .bool dn, .int .i64 fu] 24)) (.slice a fs.length c) dn fu fs := by
  obtain ⟨v', rfl, ho, hb⟩ := h
  obtain ⟨a, c, rfl⟩ := ho.slice
  exact ⟨a, c, rfl, hb, Nat.le_trans hw.size hb.size, by simp, (hw.trans (hb.mono hw.size)).alloc (Nat.le_trans hw.size hb.size) _, Dx.made _ _ _ _, (ho.files hf hl).al _⟩
/-- Behind a call, and a variable laid behind it. -/
theorem St.next {w x x' : World} {B : Nat} {a : Option Addr} {c : Nat} {dn : Bool} {fu : Int} {fs : List Fl} (h : St w B x (.slice a fs.length c) dn fu fs) (hb : Below x.heap.size x x') (o : Obj) :
    St w B (x'.alloc o) (.slice a fs.length c) dn fu fs ∧ x'.cell? ⟨B, 0, none⟩ = some (.slice a fs.length c) ∧ x'.cell? ⟨B, 1, none⟩ = some (.bool dn) ∧ x'.cell? ⟨B, 2, none⟩ = some (.int .i64 fu) ∧ B < x'.heap.size :=
  ⟨h.keep (hb.alloc hb.size _), (h.keep hb).dx.d0, (h.keep hb).dx.d1, (h.keep hb).dx.d2, (h.keep hb).hi⟩
theorem St.after {w x x' : World} {B : Nat} {a : Option Addr} {c : Nat} {dn : Bool} {fu : Int} {fs : List Fl} (h : St w B x (.slice a fs.length c) dn fu fs) (hb : Below x.heap.size x x') :
    St w B x' (.slice a fs.length c) dn fu fs ∧ x'.cell? ⟨B, 0, none⟩ = some (.slice a fs.length c) ∧ x'.cell? ⟨B, 1, none⟩ = some (.bool dn) ∧ x'.cell? ⟨B, 2, none⟩ = some (.int .i64 fu) ∧ B < x'.heap.size :=
  ⟨h.keep hb, (h.keep hb).dx.d0, (h.keep hb).dx.d1, (h.keep hb).dx.d2, (h.keep hb).hi⟩

end Dk
end Go.Proofs.Ytpncflgcfndhmaa
