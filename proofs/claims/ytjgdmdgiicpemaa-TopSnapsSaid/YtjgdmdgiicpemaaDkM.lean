/-
  Merged: DiskCopy, DiskCrashR, DiskCrashT, DiskNames, DiskNm, Arg, DiskAsks, DiskCr.
-/
import Derived.Test.YtjgdmdgiicpemaaDiskLives2
import Derived.Laws.AppendOwnNone
import Derived.Laws.StructEq
import Derived.Test.YtjgdmdgiicpemaaDiskInsert
import Derived.WalkKit
import Derived.ProofKit
import Derived.SliceStrings
import Derived.Test.YtjgdmdgiicpemaaDiskArg
import Derived.Deep.RegionHeld3
/- The document's Copy and Same. -/
namespace Go.Proofs.Ytjgdmdgiicpemaa
open Go.RowKit Go.Lib Go.Sort
namespace Dk
theorem results_cell_one {fn : Func} {p : Tmp} {ty : TypeId} (h : fn.results = #[.cell p ty]) (tmps : Array Value) (P : Program) (w : World) :
    (results fn tmps).run P w = ((asAddr (tmps.getD p undef)).run P w).andThen fun a w₁ => (loadVar ty a).run P w₁ := by
  simp only [results, h]
  simp [Sem.run_bind, Result.andThen]
theorem bodyPost_one {fn : Func} {p : Tmp} (h : fn.results = #[.cell p 27]) {R : Ending → World → Prop} {a : Act} {w : World} (B : Nat) (v : Value) (dn : Bool) (fu : Int) (hd : a.defers = [])
    (hp : a.tmps.getD p undef = .pointer (some ⟨B, 0, none⟩)) (h0 : w.cell? ⟨B, 0, none⟩ = some v) (h1 : w.cell? ⟨B, 1, none⟩ = some (.bool dn)) (h2 : w.cell? ⟨B, 2, none⟩ = some (.int .i64 fu))
    (hR : R (.returned (.agg #[v, .bool dn, .int .i64 fu])) w) : bodyPost Try.prog fn R .ret a w := by
  refine bodyPost_ret ?_ hd hR
  rw [results_cell_one h, hp]
  have := load_disk w B v dn fu h0 h1 h2
  simp [asAddr, this, Result.andThen]
theorem boxes2 (w : World) (v u : Value) (dn dn2 : Bool) (fu fu2 : Int) (cs : Array Value) (t : TypeId) :
    Dx w.heap.size (((w.alloc (.cells #[v, .bool dn, .int .i64 fu] 27)).alloc (.cells #[u, .bool dn2, .int .i64 fu2] 27)).alloc (.cells cs t)) v dn fu ∧
    Dx (w.heap.size + 1) (((w.alloc (.cells #[v, .bool dn, .int .i64 fu] 27)).alloc (.cells #[u, .bool dn2, .int .i64 fu2] 27)).alloc (.cells cs t)) u dn2 fu2 ∧
    Below w.heap.size w (((w.alloc (.cells #[v, .bool dn, .int .i64 fu] 27)).alloc (.cells #[u, .bool dn2, .int .i64 fu2] 27)).alloc (.cells cs t)) := by
  refine ⟨?_, ?_, (((Below.refl _ _).alloc (Nat.le_refl _) _).alloc (by simp) _).alloc (by simp; omega) _⟩
  · constructor <;> simp [go_sem]
  · constructor <;> simp [go_sem]
/-- A disk alone, of memory of the call's own. -/
def CopyIs (w : World) (fs : List Fl) (dn : Bool) (fu : Int) (e : Ending) (w' : World) : Prop :=
  ∃ v', e = .returned (.agg #[v', .bool dn, .int .i64 fu]) ∧ Own w' w.heap.size v' fs ∧ Below w.heap.size w w'

/-- Whether two files are not one. -/
def nqF (n1 y1 : ByteArray) (z1 : Int) (n2 y2 : ByteArray) (z2 : Int) : Bool := !((n1.toList == n2.toList) && ((y1.toList == y2.toList) && (z1 == z2)))
theorem nqF_no {n1 y1 : ByteArray} {z1 : Int} {n2 y2 : ByteArray} {z2 : Int} (h : nqF n1 y1 z1 n2 y2 z2 = false) : (⟨n1, y1, z1⟩ : Fl) = ⟨n2, y2, z2⟩ := by
  have ex : ∀ a b : ByteArray, a.toList = b.toList → a = b := fun a b e => by
    rw [ByteArray.toList_eq, ByteArray.toList_eq] at e
    exact ByteArray.ext (Array.ext' e)
  simp [nqF] at h
  obtain ⟨h1, h2, rfl⟩ := h
  rw [ex _ _ h1, ex _ _ h2]
theorem nqF_yes {n1 y1 : ByteArray} {z1 : Int} {n2 y2 : ByteArray} {z2 : Int} (h : nqF n1 y1 z1 n2 y2 z2 = true) : (⟨n1, y1, z1⟩ : Fl) ≠ ⟨n2, y2, z2⟩ := by
  intro he
  cases he
  simp [nqF] at h
set_option maxRecDepth 100000 in
theorem neq_file (n1 y1 n2 y2 : ByteArray) (z1 z2 : Int) (w : World) : (binOp .neq 55 (.agg #[.string n1, .string y1, .int .i64 z1]) (.agg #[.string n2, .string y2, .int .i64 z2])).run Try.prog w = .ok (.bool (nqF n1 y1 z1 n2 y2 z2)) w := by
  have u3 := Try.underlying3
  have u9 := Try.underlying9
  have a3 := Try.isAgg3
  have a9 := Try.isAgg9
  have z3 := Try.sizeOf3
  have z9 := Try.sizeOf9
  have hS : Try.prog.underlying 55 = some (.struct (Try.prog.fieldsOf 55)) := by kernel_rfl
  have hp : Try.prog.stoodInHeld 55 = false := by kernel_rfl
  rw [run_neq_struct, show (10000 : Nat) = 9999 + 1 from rfl, run_equalIn_agg w 9999 55 _ _ hS hp]
  simp only [Program.fieldsOf, Try.underlying55]
  go_simp
  by_cases h1 : n1.toList = n2.toList <;> by_cases h2 : y1.toList = y2.toList <;> by_cases h3 : z1 = z2 <;> simp [h1, h2, h3, nqF]
theorem guard_file : Try.prog.eqGuardType Try.prog.depth 55 = false := by kernel_rfl
/-- What Same tells of two disks. -/
def SameIs (dn dn2 : Bool) (fu fu2 : Int) (fs fs2 : List Fl) (e : Ending) : Prop := ∃ b, e = .returned (.bool b) ∧ (b = true ↔ dn = dn2 ∧ fu = fu2 ∧ fs = fs2)
theorem SameIs.yes {dn : Bool} {fu : Int} {fs fs2 : List Fl} (h : fs = fs2) : SameIs dn dn fu fu fs fs2 (.returned (.bool true)) := ⟨true, rfl, by simp [h]⟩
theorem SameIs.no {dn dn2 : Bool} {fu fu2 : Int} {fs fs2 : List Fl} (h : ¬ (dn = dn2 ∧ fu = fu2 ∧ fs = fs2)) : SameIs dn dn2 fu fu2 fs fs2 (.returned (.bool false)) := ⟨false, rfl, by simp; simpa using h⟩
end Dk
end Go.Proofs.Ytjgdmdgiicpemaa

/- The document's Crash. -/
namespace Go.Proofs.Ytjgdmdgiicpemaa
open Go.RowKit Go.Lib Go.Sort
namespace Dk
/-- What is left of the first k files. -/
def crM (fs : List Fl) (ks : List Int) (k : Nat) : List Fl := (List.range k).map fun i => match fs[i]? with | none => ⟨⟨#[]⟩, ⟨#[]⟩, 0⟩ | some f => crF f (crN f ks[i]?)
theorem crM_len (fs : List Fl) (ks : List Int) (k : Nat) : (crM fs ks k).length = k := by simp [crM]
theorem crM_next (fs : List Fl) (ks : List Int) (k : Nat) (h : k < fs.length) : crM fs ks (k + 1) = crM fs ks k ++ [crF fs[k] (crN fs[k] ks[k]?)] := by
  unfold crM
  rw [List.range_succ, List.map_append]
  simp [List.getElem?_eq_getElem h]
theorem crS_at (fs : List Fl) (ks : List Int) : ∀ k i, i < k → k ≤ fs.length → (crS fs ks k)[i]? = (crM fs ks fs.length)[i]?
  | 0, i, h, _ => absurd h (Nat.not_lt_zero _)
  | k + 1, i, h, hk => by
    have hl : k < fs.length := by omega
    rw [crS_next fs ks k hl]
    by_cases hi : i = k
    · subst hi
      rw [List.getElem?_set_self (by rw [crS_len]; exact hl)]
      unfold crM
      rw [List.getElem?_map, List.getElem?_range hl]
      simp [List.getElem?_eq_getElem hl]
    · rw [List.getElem?_set_ne (by omega)]
      exact crS_at fs ks k i (by omega) (by omega)
theorem crS_crM (fs : List Fl) (ks : List Int) : crS fs ks fs.length = crM fs ks fs.length := by
  apply List.ext_getElem?
  intro i
  by_cases h : i < fs.length
  · exact crS_at fs ks _ i h (Nat.le_refl _)
  · rw [List.getElem?_eq_none (by rw [crS_len]; omega), List.getElem?_eq_none (by rw [crM_len]; omega)]
theorem Dx.set0 {B : Nat} {w : World} {v v' : Value} {dn : Bool} {fu : Int} (h : Dx B w v dn fu) : Dx B (w.setCell ⟨B, 0, none⟩ v') v' dn fu := by
  obtain ⟨h0, h1, h2, g0, g1, g2⟩ := h
  have n01 : (⟨B, 0, none⟩ : Addr) ≠ ⟨B, 1, none⟩ := by simp
  have n02 : (⟨B, 0, none⟩ : Addr) ≠ ⟨B, 2, none⟩ := by simp
  refine ⟨World.cell?_setCell_same _ _ _ h0, ?_, ?_, by simp [g0], by simp [g1], by simp [g2]⟩
  · rw [World.cell?_setCell_other _ _ _ _ n01]; exact h1
  · rw [World.cell?_setCell_other _ _ _ _ n02]; exact h2
/-- One file more behind a row of the call's own: what the append leaves. -/
theorem Own.more {w : World} {base : Nat} {v : Value} {fs : List Fl} {f : Fl} (h : w.ownsRow base 55 3 v (fs.length + 1) (flat fs ++ encF f)) : Own w base v (fs ++ [f]) := by
  unfold Own
  rw [flat_app, List.length_append]
  simpa [flat] using h

set_option maxRecDepth 100000 in
set_option maxHeartbeats 4000000 in
theorem crash_bad (v kv : Value) (dn : Bool) (fu : Int) (fs : List Fl) (w : World) (hv : Files w w.heap.size v fs) (h0 : chkN fs ≠ 0) :
    Calls Try.prog 7 #[.agg #[v, .bool dn, .int .i64 fu], kv] w (DoIs w [] false 0 10) := by
  have HV := Lib.hid hv
  obtain ⟨a, c, rfl, -⟩ := hv
  have h10 : chkN fs = 10 := by
    unfold chkN at h0 ⊢
    split
    · rfl
    · split
      · rename_i h1 h2; rw [if_neg h1, if_pos h2] at h0; exact absurd rfl h0
      · rfl
  have h1 := check_own _ dn fu fs _ ((HV.out.al (.cells #[.slice a fs.length c, .bool dn, .int .i64 fu] 27)).al (.cells #[.slice none 0 0, .bool false, .int .i64 0] 27))
  rw [h10] at h1
  have hk := boxes2 w (.slice a fs.length c) (.slice none 0 0) dn false fu 0 #[] 27
  have HW : Hid (Below w.heap.size w ((w.alloc (.cells #[.slice a fs.length c, .bool dn, .int .i64 fu] 27)).alloc (.cells #[.slice none 0 0, .bool false, .int .i64 0] 27))) := ((Below.refl _ _).alloc (Nat.le_refl _) _).alloc (by simp) _
  have HDX : Hid (Dx (w.heap.size + 1) ((w.alloc (.cells #[.slice a fs.length c, .bool dn, .int .i64 fu] 27)).alloc (.cells #[.slice none 0 0, .bool false, .int .i64 0] 27)) (.slice none 0 0) false 0) := by constructor <;> simp [go_sem]
  clear h0 h10 hk
  unfold DoIs
  go_enter Try.func7, Try.ntmps7
  go_wp2
  go_step3
  go_wp2_with (go_at_call 19; go_loud (refine h1.mono ?_; rintro e w1 ⟨rfl, hb⟩; simp only [World.size_alloc] at hb; obtain ⟨d0, d1, d2, f0, f1, f2⟩ := HDX.out.keep hb (by omega); have HB1 := Lib.hid (HW.out.trans (hb.mono (by omega))); have HS1 := Lib.hid (show w.heap.size + 2 ≤ w1.heap.size by have := hb.size; simp at this; omega); clear hb))
  rw [Exit.noGoto_ret]
  refine bodyPost_disk rfl (w.heap.size + 1) (.slice none 0 0) false 0 rfl rfl ?_ ?_ ?_ ?_
  case refine_1 => go_simp
  case refine_2 => go_simp
  case refine_3 => go_simp
  case refine_4 =>
    refine ⟨_, rfl, World.ownsRow_nil _ _ _ _, ?_⟩
    · repeat (first | exact HB1.out | refine bset ?_ (show w.heap.size ≤ w.heap.size + 1 by omega) _)

end Dk
end Go.Proofs.Ytjgdmdgiicpemaa

/- The document's Crash of a right disk. -/
namespace Go.Proofs.Ytjgdmdgiicpemaa
open Go.RowKit Go.Lib Go.Sort
namespace Dk

end Dk
end Go.Proofs.Ytjgdmdgiicpemaa

/- Names: its error (what names it tells is not said here). -/
namespace Go.Proofs.Ytjgdmdgiicpemaa
open Go.RowKit Go.Lib Go.Sort
namespace Dk
theorem info_str : (Try.prog.info? 9).map (fun i => (i.zero, i.size, i.bytes)) = some (some (.string ByteArray.empty), 1, 16) := by kernel_rfl

end Dk
end Go.Proofs.Ytjgdmdgiicpemaa

/- Names, the program's and the document's: which names they tell. -/
namespace Go.Proofs.Ytjgdmdgiicpemaa
open Go.RowKit Go.Lib Go.Sort
namespace Dk
/-- Whether s begins with p. -/
def pfx (s p : ByteArray) : Bool := decide (p.size ≤ s.size) && ((s.extract 0 p.size).toList == p.toList)
/-- The names that begin so, of the first k files. -/
def nmT (fs : List Fl) (p : ByteArray) (k : Nat) : List ByteArray := ((fs.take k).filter (fun f => pfx f.nm p)).map (·.nm)
theorem nmT_zero (fs : List Fl) (p : ByteArray) : nmT fs p 0 = [] := by simp [nmT]
theorem nmT_next (fs : List Fl) (p : ByteArray) (k : Nat) (h : k < fs.length) : nmT fs p (k + 1) = nmT fs p k ++ (if pfx fs[k].nm p then [fs[k].nm] else []) := by
  unfold nmT
  rw [List.take_add_one, List.getElem?_eq_getElem h, List.filter_append, List.map_append]
  by_cases hp : pfx fs[k].nm p = true <;> simp [hp]
theorem nmT_len (fs : List Fl) (p : ByteArray) (k : Nat) : (nmT fs p k).length ≤ k := by
  unfold nmT
  rw [List.length_map]
  exact Nat.le_trans (List.length_filter_le _ _) (by rw [List.length_take]; omega)
theorem row_le {w : World} {base base' : Nat} {e : TypeId} {size n : Nat} {v : Value} {xs : List Value} (h : w.ownsRow base e size v n xs) (hb : base' ≤ base) : w.ownsRow base' e size v n xs := ⟨h.1, h.2.elim Or.inl (fun ⟨g, cap, cur, hv, hg, r⟩ => Or.inr ⟨g, cap, cur, hv, Nat.le_trans hb hg, r⟩)⟩
/-- What Names tells. -/
def nms (fs : List Fl) (dn : Bool) (p : ByteArray) : List ByteArray := if rdN fs dn = 0 then nmT fs p fs.length else []
def NamesIs (w : World) (fs : List Fl) (dn : Bool) (p : ByteArray) (e : Ending) (w' : World) : Prop :=
  ∃ v', e = .returned (.tuple #[v', .int .i64 (rdN fs dn : Nat)]) ∧ w'.ownsRow w.heap.size 9 1 v' (nms fs dn p).length ((nms fs dn p).map .string) ∧ Below w.heap.size w w'

end Dk
end Go.Proofs.Ytjgdmdgiicpemaa

/- ARGUMENTS: a slice of strings that came in, as a list; what is kept where only new memory was made. -/
namespace Go.Proofs.Ytjgdmdgiicpemaa
open Go.RowKit Go.WideShapes Go.ChangeShapes
namespace Arg

/-- v is a slice of the strings ss, below block B. -/
def IsStrs (w : World) (B : Nat) (v : Value) (ss : List ByteArray) : Prop :=
  ∃ a c, v = .slice a ss.length c ∧ (∀ s ∈ ss, s.size ≤ maxLen) ∧ ss.length ≤ maxLen ∧
    (0 < ss.length → ∃ b off, a = some ⟨b, off, none⟩ ∧ b < B ∧ ∀ i (h : i < ss.length), w.cell? ⟨b, off + i, none⟩ = some (.string ss[i]))

theorem spot_none (w : World) (a : Addr) (v : Value) (h : w.cell? a = some v) : a.spot = none := by
  unfold World.cell? at h
  split at h
  · cases hs : a.spot with
    | none => rfl
    | some q => rw [hs] at h; simp at h
  · cases h
theorem strs_of {H : Type} {enc : TypeId × Value → H} {P : Program} {w : World} {t e : TypeId} {v : Value} {d : DataW H} {ps : List MemPlace} {base : Nat}
    (ht : P.underlying t = some (.slice e)) (he : P.underlying e = some .string) (hc : P.cellsOf e = 1)
    (ho : Value.okWide P w .any base t v) (hk : DataW.Trod enc P w 0 (fun _ => true) true t v d ps) : ∃ ss, IsStrs w w.heap.size v ss := by
  obtain ⟨a0, len0, cap0, rfl⟩ := okWide_slice ht ho
  obtain ⟨fuel, hf⟩ := hk
  rcases open_strings ht he hc hf with ⟨hcs, _⟩ | ⟨x, l, c, ss, hcs, _, hl, hm, hz, _, hcell, hws⟩
  · simp [Value.cells] at hcs
    obtain ⟨rfl, rfl, rfl⟩ := hcs
    exact ⟨[], none, 0, rfl, by simp, by simp [maxLen], by simp⟩
  · simp [Value.cells] at hcs
    obtain ⟨rfl, rfl, rfl⟩ := hcs
    simp only [if_true] at hz
    have hlen : (ss.take len0).length = len0 := by rw [List.length_take]; omega
    refine ⟨ss.take len0, some x, cap0, by rw [hlen], fun s hs => hws s (List.mem_of_mem_take hs), by omega, fun hp => ?_⟩
    have h0 := hcell 0 (by omega)
    have hx := World.block_lt_of_cell? w _ h0
    have hsp : x.spot = none := by
      have := spot_none w _ _ h0
      simpa [Addr.add] using this
    refine ⟨x.block, x.off, by cases x; simp_all, by simpa [Addr.add] using hx, fun i hi => ?_⟩
    have hi2 : i < ss.length := by omega
    have h1 := hcell i hi2
    have e : x.add i = ⟨x.block, x.off + i, none⟩ := by
      unfold Addr.add
      split
      · rename_i e; subst e; cases x; simp_all
      · rfl
    rw [e] at h1
    rw [h1, List.getElem_take]
    simp [List.getD, hi2]
theorem IsStrs.keep {w w' : World} {B : Nat} {v : Value} {ss : List ByteArray} (h : IsStrs w B v ss) (hb : Below B w w') : IsStrs w' B v ss := by
  obtain ⟨a, c, rfl, h1, h2, h3⟩ := h
  refine ⟨a, c, rfl, h1, h2, fun hp => ?_⟩
  obtain ⟨b, off, rfl, hlt, hc⟩ := h3 hp
  exact ⟨b, off, rfl, hlt, fun i hi => (hb.cell (by exact hlt)).trans (hc i hi)⟩

theorem grown_of_below {w w' : World} (h : Below w.heap.size w w') : w.grownBy w' none := ⟨h.os, h.tape, h.output, h.size, fun k hk _ => h.block k hk⟩
theorem own_below {w w' : World} {base : Nat} {e : TypeId} {size n : Nat} {v : Value} {xs : List Value} (h : w.ownsRow base e size v n xs) (hb : Below w.heap.size w w') : w'.ownsRow base e size v n xs := by
  refine h.kept (grown_of_below hb) ?_
  cases hv : v.ownBlock with
  | none => exact .inl rfl
  | some g => exact .inr (by simp)
theorem len_own {w : World} {base : Nat} {e : TypeId} {size n : Nat} {v : Value} {xs : List Value} (h : w.ownsRow base e size v n xs) : ∃ a c, v = .slice a n c := by
  rcases h.2 with ⟨rfl, rfl⟩ | ⟨g, cap, cur, rfl, _⟩
  · exact ⟨_, _, rfl⟩
  · exact ⟨_, _, rfl⟩
theorem own_form {w : World} {base : Nat} {e : TypeId} {size n : Nat} {v : Value} {xs : List Value} (h : w.ownsRow base e size v n xs) (hn : 0 < n) :
    ∃ g cap, v = .slice (some ⟨g, 0, none⟩) n cap ∧ base ≤ g ∧ g < w.heap.size := by
  rcases h.2 with ⟨rfl, rfl⟩ | ⟨g, cap, cur, rfl, hb, _⟩
  · omega
  · exact ⟨g, cap, rfl, h.lt g rfl⟩
end Arg
end Go.Proofs.Ytjgdmdgiicpemaa

/- LAW: DiskAsks. -/
namespace Go.Proofs.Ytjgdmdgiicpemaa
open Go.RowKit Go.Lib Go.Sort
namespace Dk
theorem St.made {w : World} {a : Option Addr} {c : Nat} {dn : Bool} {fu : Int} {fs : List Fl} (h : Files w w.heap.size (.slice a fs.length c) fs) :
    St w w.heap.size (w.alloc (.cells #[.slice a fs.length c, .bool dn, .int .i64 fu] 27)) (.slice a fs.length c) dn fu fs :=
  ⟨Nat.le_refl _, by simp, (Below.refl _ _).alloc (Nat.le_refl _) _, Dx.made _ _ _ _, h.al _⟩
theorem St.fill {w x x' : World} {B : Nat} {a : Option Addr} {c : Nat} {dn : Bool} {fu : Int} {fs : List Fl} (h : St w B x (.slice a fs.length c) dn fu fs) (hb : Below x.heap.size x x') :
    St w B x' (.slice a fs.length c) dn fu fs ∧ x'.cell? ⟨B, 0, none⟩ = some (.slice a fs.length c) ∧ x'.cell? ⟨B, 1, none⟩ = some (.bool dn) ∧ x'.cell? ⟨B, 2, none⟩ = some (.int .i64 fu) :=
  ⟨h.keep hb, (h.keep hb).dx.d0, (h.keep hb).dx.d1, (h.keep hb).dx.d2⟩
theorem St.fillH {w x x' : World} {B : Nat} {a : Option Addr} {c : Nat} {dn : Bool} {fu : Int} {fs : List Fl} (h : St w B x (.slice a fs.length c) dn fu fs) (hb : Below x.heap.size x x') :
    x'.cell? ⟨B, 0, none⟩ = some (.slice a fs.length c) ∧ x'.cell? ⟨B, 1, none⟩ = some (.bool dn) ∧ x'.cell? ⟨B, 2, none⟩ = some (.int .i64 fu) ∧ Hid (Below x.heap.size x x') :=
  ⟨(h.keep hb).dx.d0, (h.keep hb).dx.d1, (h.keep hb).dx.d2, hb⟩
theorem strs_at {w : World} {base : Nat} {e : TypeId} {v : Value} {ss : List ByteArray} (h : w.ownsRow base e 1 v ss.length (ss.map .string)) (hn : 0 < ss.length) :
    ∃ g cap, v = .slice (some ⟨g, 0, none⟩) ss.length cap ∧ g < w.heap.size ∧ ∀ i (hi : i < ss.length), w.cell? ⟨g, i, none⟩ = some (.string ss[i]) := by
  obtain ⟨g, cap, rfl, -, hg⟩ := Arg.own_form h hn
  refine ⟨g, cap, rfl, hg, fun i hi => ?_⟩
  have := h.cells rfl i (.string ss[i]) (by rw [List.getElem?_map, List.getElem?_eq_getElem hi]; rfl)
  rw [Addr.add_lit] at this
  simpa using this

end Dk
end Go.Proofs.Ytjgdmdgiicpemaa

/- Crash as a whole, the program's and the document's; variables that hold what a call answered; LAW: DiskCrashes. -/
namespace Go.Proofs.Ytjgdmdgiicpemaa
open Go.RowKit Go.Lib Go.Sort
namespace Dk
def crV (fs : List Fl) (ks : List Int) : List Fl := if chkN fs = 0 then crS fs ks fs.length else []
def crU (fs : List Fl) : Int := if chkN fs = 0 then -1 else 0
def crE (fs : List Fl) : Nat := if chkN fs = 0 then 0 else 10
theorem crash_all (v kv : Value) (dn : Bool) (fu : Int) (fs : List Fl) (ks : List Int) (w : World) (hv : Files w w.heap.size v fs) (hk : Ints w w.heap.size kv ks) :
    Calls Try.prog 7 #[.agg #[v, .bool dn, .int .i64 fu], kv] w (DoIs w (crV fs ks) false (crU fs) (crE fs)) := by
  unfold crV crU crE
  by_cases h : chkN fs = 0
  · rw [if_pos h, if_pos h, if_pos h]; exact crash_own v kv dn fu fs ks w hv hk h
  · rw [if_neg h, if_neg h, if_neg h]; exact crash_bad v kv dn fu fs w hv h
theorem crN_le (f : Fl) (o : Option Int) (h : 0 ≤ f.sy ∧ f.sy ≤ f.da.size) : f.sy ≤ (crN f o : Nat) ∧ crN f o ≤ f.da.size := by
  unfold crN
  cases o with
  | none => simp; omega
  | some k =>
    simp only
    split
    · omega
    · split <;> omega
theorem crM_at (fs : List Fl) (ks : List Int) (k i : Nat) (h : i < k) (hk : k ≤ fs.length) : (crM fs ks k)[i]'(by rw [crM_len]; exact h) = crF (fs[i]'(by omega)) (crN (fs[i]'(by omega)) ks[i]?) := by
  simp only [crM, List.getElem_map, List.getElem_range]
  rw [List.getElem?_eq_getElem (by omega)]
theorem crV_fine (fs : List Fl) (ks : List Int) (hf : Fine fs) : Fine (crV fs ks) := by
  unfold crV
  by_cases h : chkN fs = 0
  · rw [if_pos h, crS_crM]
    intro f hm
    obtain ⟨i, hi, rfl⟩ := List.getElem_of_mem hm
    rw [crM_len] at hi
    rw [crM_at fs ks _ i hi (Nat.le_refl _)]
    have h1 := sy_fine fs (chk_fine fs h).2 i hi
    have h2 := crN_le fs[i] ks[i]? h1
    have h3 := (hf _ (List.getElem_mem hi)).1
    simp only [crF, maxLen] at *
    refine ⟨?_, by omega, by omega⟩
    rw [ByteArray.size_extract]
    omega
  · rw [if_neg h]; intro f hm; simp at hm
theorem crV_len (fs : List Fl) (ks : List Int) (hl : fs.length ≤ 4611686018427387904) : (crV fs ks).length ≤ 4611686018427387904 := by
  unfold crV
  split
  · rw [crS_len]; exact hl
  · simp
theorem Ints.keep {w w' : World} {B : Nat} {v : Value} {ks : List Int} (h : Ints w B v ks) (hb : Below B w w') : Ints w' B v ks := by
  obtain ⟨a, c, rfl, h1, h2, h3⟩ := h
  refine ⟨a, c, rfl, h1, h2, fun hp => ?_⟩
  obtain ⟨b, off, rfl, hlt, hc⟩ := h3 hp
  exact ⟨b, off, rfl, hlt, fun i hi => (hb.cell (by exact hlt)).trans (hc i hi)⟩
theorem Ints.more {w : World} {B B' : Nat} {v : Value} {ks : List Int} (h : Ints w B v ks) (hb : B ≤ B') : Ints w B' v ks := by
  obtain ⟨a, c, rfl, h1, h2, h3⟩ := h
  refine ⟨a, c, rfl, h1, h2, fun hp => ?_⟩
  obtain ⟨b, off, rfl, hlt, hc⟩ := h3 hp
  exact ⟨b, off, rfl, by omega, hc⟩
theorem Ints.on {w w' : World} {v : Value} {ks : List Int} (h : Ints w w.heap.size v ks) (hb : Below w.heap.size w w') : Ints w' w'.heap.size v ks := (h.keep hb).more hb.size
theorem Files.fine {w : World} {B : Nat} {v : Value} {fs : List Fl} (h : Files w B v fs) : Fine fs := by obtain ⟨_, _, _, _, h, _⟩ := h; exact h
theorem Files.len {w : World} {B : Nat} {v : Value} {fs : List Fl} (h : Files w B v fs) : fs.length ≤ 4611686018427387904 := by obtain ⟨_, _, _, h, _⟩ := h; exact h
/-- What a copy leaves, laid into a variable of its own. -/
theorem CopyIs.var {w x x' : World} {fs : List Fl} {dn : Bool} {fu : Int} {e : Ending} (h : CopyIs x fs dn fu e x') (hw : Below w.heap.size w x) (hf : Fine fs) (hl : fs.length ≤ 4611686018427387904) :
    ∃ a c, e = .returned (.agg #[.slice a fs.length c, .bool dn, .int .i64 fu]) ∧ Below x.heap.size x x' ∧ St w x'.heap.size (x'.alloc (.cells #[.slice a fs.length c, .bool dn, .int .i64 fu] 27)) (.slice a fs.length c) dn fu fs := by
  obtain ⟨v', rfl, ho, hb⟩ := h
  obtain ⟨a, c, rfl⟩ := ho.slice
  exact ⟨a, c, rfl, hb, Nat.le_trans hw.size hb.size, by simp, (hw.trans (hb.mono hw.size)).alloc (Nat.le_trans hw.size hb.size) _, Dx.made _ _ _ _, (ho.files hf hl).al _⟩
theorem DoIs.var {w x x' : World} {fs : List Fl} {dn : Bool} {fu : Int} {r : Nat} {e : Ending} (h : DoIs x fs dn fu r e x') (hw : Below w.heap.size w x) (hf : Fine fs) (hl : fs.length ≤ 4611686018427387904) :
    ∃ a c, e = .returned (.tuple #[.agg #[.slice a fs.length c, .bool dn, .int .i64 fu], .int .i64 (r : Nat)]) ∧ Below x.heap.size x x' ∧ St w x'.heap.size (x'.alloc (.cells #[.slice a fs.length c, .bool dn, .int .i64 fu] 27)) (.slice a fs.length c) dn fu fs := by
  obtain ⟨v', rfl, ho, hb⟩ := h
  obtain ⟨a, c, rfl⟩ := ho.slice
  exact ⟨a, c, rfl, hb, Nat.le_trans hw.size hb.size, by simp, (hw.trans (hb.mono hw.size)).alloc (Nat.le_trans hw.size hb.size) _, Dx.made _ _ _ _, (ho.files hf hl).al _⟩
/-- Behind a call, and a variable laid behind it. -/
theorem St.next {w x x' : World} {B : Nat} {a : Option Addr} {c : Nat} {dn : Bool} {fu : Int} {fs : List Fl} (h : St w B x (.slice a fs.length c) dn fu fs) (hb : Below x.heap.size x x') (o : Obj) :
    St w B (x'.alloc o) (.slice a fs.length c) dn fu fs ∧ x'.cell? ⟨B, 0, none⟩ = some (.slice a fs.length c) ∧ x'.cell? ⟨B, 1, none⟩ = some (.bool dn) ∧ x'.cell? ⟨B, 2, none⟩ = some (.int .i64 fu) ∧ B < x'.heap.size :=
  ⟨h.keep (hb.alloc hb.size _), (h.keep hb).dx.d0, (h.keep hb).dx.d1, (h.keep hb).dx.d2, (h.keep hb).hi⟩
theorem St.after {w x x' : World} {B : Nat} {a : Option Addr} {c : Nat} {dn : Bool} {fu : Int} {fs : List Fl} (h : St w B x (.slice a fs.length c) dn fu fs) (hb : Below x.heap.size x x') :
    St w B x' (.slice a fs.length c) dn fu fs ∧ x'.cell? ⟨B, 0, none⟩ = some (.slice a fs.length c) ∧ x'.cell? ⟨B, 1, none⟩ = some (.bool dn) ∧ x'.cell? ⟨B, 2, none⟩ = some (.int .i64 fu) ∧ B < x'.heap.size :=
  ⟨h.keep hb, (h.keep hb).dx.d0, (h.keep hb).dx.d1, (h.keep hb).dx.d2, (h.keep hb).hi⟩

end Dk
end Go.Proofs.Ytjgdmdgiicpemaa
