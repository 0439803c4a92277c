/-
  lives of gafferlaw14 is true.
-/
import Derived.Test.YtjalmciaaenmjaaLogJn2
import Derived.Deep.Cut
import Derived.Deep.RegionHeld3
namespace Go.Proofs.Ytjalmciaaenmjaa
open Go.RowKit Go.Lib
namespace Lo
def z1 (i t : Nat) : En := ⟨i, t, 1, ⟨#[]⟩, []⟩
def l3 : List En := [z1 1 1, z1 2 1, z1 3 2]
def m3 : List En := [z1 1 1, z1 2 1, z1 3 3]
theorem l3_ok : okB 0 0 l3 = true := by decide +kernel
theorem m3_ok : okB 0 0 m3 = true := by decide +kernel
theorem j31 : jv 0 0 l3 2 1 [z1 3 3] = (0, 0, m3, 3, 0) := by kernel_rfl
theorem j32 : jv 0 0 l3 2 2 [] = (0, 0, [], 0, 18) := by kernel_rfl
theorem e3 : eI 0 m3 = 3 ∧ eT 0 m3 = 3 := by decide +kernel
theorem t3 : trB 0 0 l3 2 = 2 ∧ trT 0 0 l3 2 = 1 ∧ trE 0 0 l3 2 = 0 := by decide +kernel
theorem t3l : trL 0 0 l3 2 = [z1 3 2] := by kernel_rfl
theorem n3 : okB 2 1 [z1 3 2] = true ∧ tmE 2 1 1 = 15 ∧ tmV 2 1 [z1 3 2] 1 = 0 := by decide +kernel
theorem w3b : nwB 0 0 l3 3 2 = true := by decide +kernel
/-- A row of entries without members. -/
theorem Sl.new (z : World) (T : TypeId) (es : List En) (h0 : ∀ e ∈ es, e.ks = [] ∧ Lt64 e.i ∧ Lt64 e.t) (hl : es.length ≤ 2199023255551) :
    Sl (z.alloc (.cells (flatE (es.map fun e => (e, Value.slice none 0 0))).toArray T)) 0 (z.heap.size + 1) (some ⟨z.heap.size, 0, none⟩) es.length es := by
  refine ⟨fun _ => ⟨z.heap.size, 0, rfl, Nat.zero_le _, Nat.lt_succ_self _, fun i hi => ⟨.slice none 0 0, ?_⟩⟩, Nat.le_refl _, (fun h => by cases h), hl⟩
  obtain ⟨k0, k1, k2⟩ := h0 es[i] (List.getElem_mem hi)
  have hi2 : i < (es.map fun e => (e, Value.slice none 0 0)).length := by rw [List.length_map]; exact hi
  obtain ⟨f0, f1, f2, f3, f4⟩ := flatE_at (es.map fun e => (e, Value.slice none 0 0)) i hi2
  simp only [List.getElem_map] at f0 f1 f2 f3 f4
  have key : ∀ j u, (flatE (es.map fun e => (e, Value.slice none 0 0)))[j]? = some u → (z.alloc (.cells (flatE (es.map fun e => (e, Value.slice none 0 0))).toArray T)).cell? ⟨z.heap.size, j, none⟩ = some u := by
    intro j u hj
    rw [cell_of_row _ _ j _ _ (0, 0) (heap_alloc_new z _)]
    simpa using hj
  rw [Nat.zero_add]
  refine ⟨key _ _ f0, key _ _ f1, key _ _ f2, key _ _ f3, key _ _ f4, ?_, k1, k2⟩
  rw [k0]
  exact ⟨none, 0, rfl, by simp, by simp, fun h => absurd h (by simp)⟩
theorem Sl.new1 (z : World) : Sl (z.alloc (.cells #[.int .u64 3, .int .u64 3, .int .u8 1, .string ⟨#[]⟩, .slice none 0 0] 53)) 0 (z.alloc (.cells #[.int .u64 3, .int .u64 3, .int .u8 1, .string ⟨#[]⟩, .slice none 0 0] 53)).heap.size (some ⟨z.heap.size, 0, none⟩) 1 [z1 3 3] := by
  rw [World.size_alloc]
  exact Sl.new z 53 [z1 3 3] (by intro e he; simp at he; subst he; exact ⟨rfl, by unfold Lt64 z1; decide, by unfold Lt64 z1; decide⟩) (by decide)
theorem Sl.new3 (z : World) (o : Obj) : Sl ((z.alloc (.cells #[.int .u64 1, .int .u64 1, .int .u8 1, .string ⟨#[]⟩, .slice none 0 0, .int .u64 2, .int .u64 1, .int .u8 1, .string ⟨#[]⟩, .slice none 0 0, .int .u64 3, .int .u64 2, .int .u8 1, .string ⟨#[]⟩, .slice none 0 0] 53)).alloc o) 0 ((z.alloc (.cells #[.int .u64 1, .int .u64 1, .int .u8 1, .string ⟨#[]⟩, .slice none 0 0, .int .u64 2, .int .u64 1, .int .u8 1, .string ⟨#[]⟩, .slice none 0 0, .int .u64 3, .int .u64 2, .int .u8 1, .string ⟨#[]⟩, .slice none 0 0] 53)).alloc o).heap.size (some ⟨z.heap.size, 0, none⟩) 3 l3 := by
  have h := Sl.new z 53 l3 (by intro e he; simp [l3] at he; rcases he with rfl | rfl | rfl <;> exact ⟨rfl, by unfold Lt64 z1; decide, by unfold Lt64 z1; decide⟩) (by decide)
  refine ((h.keep (w' := _) ((Below.refl _ _).alloc (by rw [World.size_alloc]; exact Nat.le_refl _) o)).more (by rw [World.size_alloc, World.size_alloc]; exact Nat.le_succ _) (Nat.le_refl _))
theorem load_ent (w : World) (B : Nat) (i t k : Int) (d : ByteArray) (v : Value) (T : TypeId) (h : w.heap[B]? = some (.cells #[.int .u64 i, .int .u64 t, .int .u8 k, .string d, v] T (0, 0))) :
    (loadVar 53 ⟨B, 0, none⟩).run Try.prog w = .ok (.agg #[.int .u64 i, .int .u64 t, .int .u8 k, .string d, v]) w := by
  have c0 : w.cell? ⟨B, 0, none⟩ = some (.int .u64 i) := by rw [cell_of_row w B 0 _ _ (0, 0) h]; rfl
  have c1 : w.cell? ⟨B, 1, none⟩ = some (.int .u64 t) := by rw [cell_of_row w B 1 _ _ (0, 0) h]; rfl
  have c2 : w.cell? ⟨B, 2, none⟩ = some (.int .u8 k) := by rw [cell_of_row w B 2 _ _ (0, 0) h]; rfl
  have c3 : w.cell? ⟨B, 3, none⟩ = some (.string d) := by rw [cell_of_row w B 3 _ _ (0, 0) h]; rfl
  have c4 : w.cell? ⟨B, 4, none⟩ = some v := by rw [cell_of_row w B 4 _ _ (0, 0) h]; rfl
  have a := Try.isAgg53 w
  have c := Try.sizeOf53 w
  go_simp
theorem entry_of (i t : Int) (w : World) :
    Calls Try.prog 37 #[.int .u64 i, .int .u64 t] w fun e w' => e = .returned (.agg #[.int .u64 i, .int .u64 t, .int .u8 1, .string ⟨#[]⟩, .slice none 0 0]) ∧ Below w.heap.size w w' := by
  go_enter Try.func37, Try.ntmps37
  go_wp2
  refine bodyPost_ret (v := .agg #[.int .u64 i, .int .u64 t, .int .u8 1, .string ⟨#[]⟩, .slice none 0 0]) ?_ rfl ⟨rfl, (Below.refl _ _).alloc (Nat.le_refl _) _⟩
  rw [results_cell1 rfl]
  have := load_ent _ w.heap.size i t 1 ⟨#[]⟩ (.slice none 0 0) 53 (heap_alloc_new w _)
  simp [asAddr, this, Result.andThen]
/-- What stays while a region is drawn: the first log's box. -/
structure Lv (P1 : Nat) (sl : Value) (W z : World) : Prop where
  c : Bx3 z P1 (.int .u64 0) (.int .u64 0) sl
  be : Below W.heap.size W z
theorem Lv.go {P1 : Nat} {sl : Value} {W z z' : World} (h : Lv P1 sl W z) (hb : Below z.heap.size z z') : Lv P1 sl W z' := ⟨h.c.below hb, h.be.trans (hb.mono h.be.size)⟩
theorem Lv.put {P1 : Nat} {sl : Value} {W z : World} (h : Lv P1 sl W z) {N : Nat} (h1 : W.heap.size ≤ N) (h2 : P1 < W.heap.size) (j : Nat) (v : Value) : Lv P1 sl W (z.setCell ⟨N, j, none⟩ v) :=
  ⟨h.c.far (by omega) j v, h.be.setCell (by exact h1) v⟩
theorem jn31 (a1 a2 : Option Addr) (z : World) (h : Sl z 0 z.heap.size a1 3 l3) (h2 : Sl z 0 z.heap.size a2 1 [z1 3 3]) :
    Calls Try.prog 26 #[.agg #[.int .u64 0, .int .u64 0, .slice a1 3 3], .int .u64 2, .int .u64 1, .slice a2 1 1] z fun e z' => (∃ a c, e = .returned (.tuple #[.agg #[.int .u64 0, .int .u64 0, .slice a 3 c], .int .u64 3, .int .i64 0]) ∧ OwnS z' z.heap.size a c m3) ∧ Below z.heap.size z z' := by
  refine Calls.mono (the_join 0 0 2 1 a1 3 l3 a2 1 [z1 3 3] z h h2 (by unfold Lt64; omega) (by unfold Lt64; omega) (by decide)) ?_
  rintro e z' ⟨hj, hb⟩
  rw [j31] at hj
  obtain ⟨a, c, rfl, ho⟩ := hj
  exact ⟨⟨a, c, rfl, ho⟩, hb⟩
theorem jn32 (a1 : Option Addr) (z : World) (h : Sl z 0 z.heap.size a1 3 l3) :
    Calls Try.prog 26 #[.agg #[.int .u64 0, .int .u64 0, .slice a1 3 3], .int .u64 2, .int .u64 2, .slice none 0 0] z fun e z' => (∃ a c, e = .returned (.tuple #[.agg #[.int .u64 0, .int .u64 0, .slice a 0 c], .int .u64 0, .int .i64 18])) ∧ Below z.heap.size z z' := by
  refine Calls.mono (the_join 0 0 2 2 a1 3 l3 none 0 [] z (A2 := 0) h (Sl.empty _ _ _ _ _ (fun _ => rfl)) (by unfold Lt64; omega) (by unfold Lt64; omega) (by decide)) ?_
  rintro e z' ⟨hj, hb⟩
  rw [j32] at hj
  obtain ⟨a, c, rfl, -⟩ := hj
  exact ⟨⟨a, c, rfl⟩, hb⟩
theorem en3 (a1 : Option Addr) (c : Nat) (z : World) (h : Sl z 0 z.heap.size a1 c m3) :
    Calls Try.prog 9 #[.agg #[.int .u64 0, .int .u64 0, .slice a1 3 c]] z fun e z' => e = .returned (.tuple #[.int .u64 3, .int .u64 3, .int .i64 0]) ∧ Below z.heap.size z z' := by
  refine Calls.mono (the_end 0 0 a1 c m3 z h) ?_
  rintro e z' ⟨he, hb⟩
  rw [if_pos m3_ok, e3.1, e3.2] at he
  exact ⟨he, hb⟩
theorem tr3 (a1 : Option Addr) (z : World) (h : Sl z 0 z.heap.size a1 3 l3) :
    Calls Try.prog 28 #[.agg #[.int .u64 0, .int .u64 0, .slice a1 3 3], .int .u64 2] z fun e z' => (∃ a c, e = .returned (.tuple #[.agg #[.int .u64 2, .int .u64 1, .slice a 1 c], .int .i64 0]) ∧ Sl z' 0 z'.heap.size a c [z1 3 2]) ∧ Below z.heap.size z z' := by
  refine Calls.mono (the_trim 0 0 2 a1 3 l3 z h (by unfold Lt64; omega) (by unfold Lt64; omega)) ?_
  rintro e z' ⟨⟨a, c, he, ho⟩, hb⟩
  rw [t3.1, t3.2.1, t3.2.2, t3l] at he
  rw [t3l] at ho
  exact ⟨⟨a, c, he, ho.sl.more (Nat.le_refl _) (Nat.zero_le _)⟩, hb⟩
theorem te3 (a1 : Option Addr) (c : Nat) (z : World) (h : Sl z 0 z.heap.size a1 c [z1 3 2]) :
    Calls Try.prog 11 #[.agg #[.int .u64 2, .int .u64 1, .slice a1 1 c], .int .u64 1] z fun e z' => e = .returned (.tuple #[.int .u64 0, .int .i64 15]) ∧ Below z.heap.size z z' := by
  refine Calls.mono (the_term 2 1 1 a1 c [z1 3 2] z h (by unfold Lt64; omega) (by unfold Lt64; omega)) ?_
  rintro e z' ⟨he, hb⟩
  rw [if_pos n3.1, show ([z1 3 2] : List En).length = 1 from rfl, n3.2.1, n3.2.2] at he
  exact ⟨he, hb⟩
theorem nw3 (a1 : Option Addr) (z : World) (h : Sl z 0 z.heap.size a1 3 l3) :
    Calls Try.prog 17 #[.agg #[.int .u64 0, .int .u64 0, .slice a1 3 3], .int .u64 3, .int .u64 2] z fun e z' => e = .returned (.tuple #[.bool true, .int .i64 0]) ∧ Below z.heap.size z z' := by
  refine Calls.mono (the_newer 0 0 3 2 a1 3 l3 z h) ?_
  rintro e z' ⟨he, hb⟩
  rw [if_pos l3_ok, w3b] at he
  exact ⟨he, hb⟩
set_option maxHeartbeats 16000000 in
set_option maxRecDepth 100000 in
theorem lives_true (w : World) : Calls Try.prog 15 #[] w fun e w' => e = .returned (.bool true) ∧ Below w.heap.size w w' := by
  have KE1 := Lib.hid (fun w => entry_of 1 1 w)
  have KE2 := Lib.hid (fun w => entry_of 2 1 w)
  have KE3 := Lib.hid (fun w => entry_of 3 2 w)
  have KE4 := Lib.hid (fun w => entry_of 3 3 w)
  go_enter Try.func15, Try.ntmps15
  go_wp2_with (go_at_call 37; (with_reducible refine (KE1.out _).mono ?_); rintro e w1 ⟨rfl, hb⟩; have HB1 := Lib.hid hb; clear hb)
  go_wp2_with (go_at_call 37; (with_reducible refine (KE2.out _).mono ?_); rintro e w2 ⟨rfl, hb⟩; have HB2 := Lib.hid (HB1.out.trans (hb.mono HB1.out.size)); clear hb)
  go_wp2_with (go_at_call 37; (with_reducible refine (KE3.out _).mono ?_); rintro e w3 ⟨rfl, hb⟩; have HB3 := Lib.hid (HB2.out.trans (hb.mono HB2.out.size)); clear hb)
  go_upto_region 2 with fail
  have HSL := Lib.hid (Sl.new3 w3 (.cells #[.int .u64 0, .int .u64 0, .slice (some ⟨w3.heap.size, 0, none⟩) 3 3] 25))
  have HC0 := Lib.hid (Bx3.made (w3.alloc (.cells #[.int .u64 1, .int .u64 1, .int .u8 1, .string ⟨#[]⟩, .slice none 0 0, .int .u64 2, .int .u64 1, .int .u8 1, .string ⟨#[]⟩, .slice none 0 0, .int .u64 3, .int .u64 2, .int .u8 1, .string ⟨#[]⟩, .slice none 0 0] 53)) (.int .u64 0) (.int .u64 0) (.slice (some ⟨w3.heap.size, 0, none⟩) 3 3) 25)
  have HBW := Lib.hid ((HB3.out.alloc HB3.out.size (.cells #[.int .u64 1, .int .u64 1, .int .u8 1, .string ⟨#[]⟩, .slice none 0 0, .int .u64 2, .int .u64 1, .int .u8 1, .string ⟨#[]⟩, .slice none 0 0, .int .u64 3, .int .u64 2, .int .u8 1, .string ⟨#[]⟩, .slice none 0 0] 53)).alloc (by rw [World.size_alloc]; exact Nat.le_succ_of_le HB3.out.size) (.cells #[.int .u64 0, .int .u64 0, .slice (some ⟨w3.heap.size, 0, none⟩) 3 3] 25))
  rw [World.size_alloc] at HC0
  generalize (w3.alloc (.cells #[.int .u64 1, .int .u64 1, .int .u8 1, .string ⟨#[]⟩, .slice none 0 0, .int .u64 2, .int .u64 1, .int .u8 1, .string ⟨#[]⟩, .slice none 0 0, .int .u64 3, .int .u64 2, .int .u8 1, .string ⟨#[]⟩, .slice none 0 0] 53)).alloc (.cells #[.int .u64 0, .int .u64 0, .slice (some ⟨w3.heap.size, 0, none⟩) 3 3] 25) = W0 at *
  have HP := Lib.hid HC0.out.lt
  have HOC : Hid (Lv (w3.heap.size + 1) (.slice (some ⟨w3.heap.size, 0, none⟩) 3 3) W0 W0.drew) := ⟨HC0.out, (Below.refl _ _).drew⟩
  clear HC0 KE1 KE2 KE3 HB1 HB2 HB3
  generalize w3.heap.size = G at *
  refine wp_region_held_drew (S := Lv (G + 1) (.slice (some ⟨G, 0, none⟩) 3 3) W0) (by kernel_rfl) HOC.out (fun hHeld => ?_)
  clear HOC
  have hz0 : Below W0.heap.size W0 W0.drew := hHeld.be
  generalize W0.drew = z0 at *
  clear hz0
  refine wpAnyH_take (i := 0) (v := ?_) rfl (by kernel_rfl) (by kernel_rfl) (by kernel_rfl) (fun _ _ _ h => h) (Or.inl ⟨by rfl, ?_⟩) (by assumption) ?_
  rotate_left
  · intro z hSz
    obtain ⟨c0, c1, c2⟩ := hSz.c.cells
    clear hSz
    go_simp
    try with_reducible rfl
  try simp only [Act.put, List.setIfInBounds_toArray, List.set_cons_zero, List.set_cons_succ, List.getElem_toArray, List.getElem_cons_zero]
  refine wpAnyH_ready (rs := [1, 8]) (by kernel_rfl) (by simp) ?_
  refine AllReadyH.cons rfl (fun K hK => ?_) ?_
  ·   go_simp
      refine (KE4.out _).mono ?_
      rintro e z1 ⟨rfl, hb⟩
      try dsimp only
      refine hK.out _ _ (hHeld.go hb) (fun hHeld2 => ?_)
      clear hb
      clear hK K hHeld
      have hHeld := hHeld2
      clear hHeld2
      try simp only [Act.put, List.setIfInBounds_toArray, List.set_cons_zero, List.set_cons_succ, List.getElem_toArray, List.getElem_cons_succ, List.getElem_cons_zero]
      refine wpAnyH_ready (rs := [2, 8]) (by kernel_rfl) (by simp) ?_
      refine AllReadyH.cons rfl (fun K hK => ?_) ?_
      ·   go_simp
          have ha : Below z1.heap.size z1 (z1.alloc (.cells #[.int .u64 3, .int .u64 3, .int .u8 1, .string ⟨#[]⟩, .slice none 0 0] 53)) := (Below.refl _ _).alloc (Nat.le_refl _) _
          have HSA := Lib.hid (Sl.new1 z1)
          refine hK.out _ _ (hHeld.go ha) (fun hHeld2 => ?_)
          clear ha
          clear hK K hHeld
          have hHeld := hHeld2
          clear hHeld2
          try simp only [Act.put, List.setIfInBounds_toArray, List.set_cons_zero, List.set_cons_succ, List.getElem_toArray, List.getElem_cons_succ, List.getElem_cons_zero]
          generalize z1.alloc (.cells #[.int .u64 3, .int .u64 3, .int .u8 1, .string ⟨#[]⟩, .slice none 0 0] 53) = z2 at *
          generalize z1.heap.size = g2 at *
          refine wpAnyH_ready (rs := [3, 8]) (by kernel_rfl) (by simp) ?_
          refine AllReadyH.cons rfl (fun K hK => ?_) ?_
          ·   go_simp
              refine (jn31 _ _ _ (HSL.out.on hHeld.be) HSA.out).mono ?_
              rintro e z3 ⟨⟨a4, c4, rfl, ho⟩, hb⟩
              try dsimp only
              refine hK.out _ _ (hHeld.go hb) (fun hHeld2 => ?_)
              have HOM := Lib.hid (ho.sl.more (Nat.le_refl _) (Nat.zero_le _))
              clear hb ho HSA
              clear hK K hHeld
              have hHeld := hHeld2
              clear hHeld2
              try simp only [Act.put, List.setIfInBounds_toArray, List.set_cons_zero, List.set_cons_succ, List.getElem_toArray, List.getElem_cons_succ, List.getElem_cons_zero]
              refine wpAnyH_take (i := 4) (v := ?_) rfl (by kernel_rfl) (by kernel_rfl) (by kernel_rfl) (fun _ _ _ h => h) (Or.inl ⟨by rfl, ?_⟩) (by assumption) ?_
              rotate_left
              · intro z hSz
                clear hSz
                go_simp
                try with_reducible rfl
              try simp only [Act.put, List.setIfInBounds_toArray, List.set_cons_zero, List.set_cons_succ, List.getElem_toArray, List.getElem_cons_succ, List.getElem_cons_zero]
              refine wpAnyH_take (i := 5) (v := ?_) rfl (by kernel_rfl) (by kernel_rfl) (by kernel_rfl) (fun _ _ _ h => h) (Or.inl ⟨by rfl, ?_⟩) (by assumption) ?_
              rotate_left
              · intro z hSz
                clear hSz
                go_simp
                try with_reducible rfl
              try simp only [Act.put, List.setIfInBounds_toArray, List.set_cons_zero, List.set_cons_succ, List.getElem_toArray, List.getElem_cons_succ, List.getElem_cons_zero]
              refine wpAnyH_take (i := 6) (v := ?_) rfl (by kernel_rfl) (by kernel_rfl) (by kernel_rfl) (fun _ _ _ h => h) (Or.inl ⟨by rfl, ?_⟩) (by assumption) ?_
              rotate_left
              · intro z hSz
                clear hSz
                go_simp
                try with_reducible rfl
              try simp only [Act.put, List.setIfInBounds_toArray, List.set_cons_zero, List.set_cons_succ, List.getElem_toArray, List.getElem_cons_succ, List.getElem_cons_zero]
              refine wpAnyH_take (i := 7) (v := ?_) rfl (by kernel_rfl) (by kernel_rfl) (by kernel_rfl) (fun _ _ _ h => h) (Or.inl ⟨by rfl, ?_⟩) (by assumption) ?_
              rotate_left
              · intro z hSz
                clear hSz
                go_simp
                try with_reducible rfl
              try simp only [Act.put, List.setIfInBounds_toArray, List.set_cons_zero, List.set_cons_succ, List.getElem_toArray, List.getElem_cons_succ, List.getElem_cons_zero]
              refine wpAnyH_ready (rs := [8]) (by kernel_rfl) (by simp) ?_
              refine AllReadyH.cons rfl (fun K hK => ?_) AllReadyH.nil
              go_simp
              have ha : Below z3.heap.size z3 (z3.alloc (.cells #[.int .u64 0, .int .u64 0, .slice none 0 0] 25)) := (Below.refl _ _).alloc (Nat.le_refl _) _
              have HR := Lib.hid (Bx3.made z3 (.int .u64 0) (.int .u64 0) (.slice none 0 0) 25)
              have HN := Lib.hid hHeld.be.size
              refine hK.out _ _ (hHeld.go ha) (fun hHeld2 => ?_)
              have HOM' := Lib.hid (HOM.out.keep ha)
              clear HOM
              have HOM := HOM'
              clear HOM'
              clear ha
              clear hK K hHeld
              have hHeld := hHeld2
              clear hHeld2
              try simp only [Act.put, List.setIfInBounds_toArray, List.set_cons_zero, List.set_cons_succ, List.getElem_toArray, List.getElem_cons_succ, List.getElem_cons_zero]
              generalize z3.alloc (.cells #[.int .u64 0, .int .u64 0, .slice none 0 0] 25) = z4 at *
              generalize z3.heap.size = N2 at *
              refine wpAnyH_ready (rs := [9]) (by kernel_rfl) (by simp) ?_
              refine AllReadyH.cons rfl (fun K hK => ?_) AllReadyH.nil
              obtain ⟨e0, e1, e2⟩ := HR.out.cells
              obtain ⟨g0, g1, g2'⟩ := HR.out.fz
              go_simp
              refine hK.out _ _ (((hHeld.put HN.out HP.out 0 _).put HN.out HP.out 1 _).put HN.out HP.out 2 _) (fun hHeld2 => ?_)
              have HR' := Lib.hid (((HR.out.set0 (.int .u64 0)).set1 (.int .u64 0)).set2 (.slice a4 3 c4))
              have HOM' := Lib.hid (Sl.more (B' := (((z4.setCell ⟨N2, 0, none⟩ (.int .u64 0)).setCell ⟨N2, 1, none⟩ (.int .u64 0)).setCell ⟨N2, 2, none⟩ (.slice a4 3 c4)).heap.size) (((HOM.out.box (.inr (Nat.le_refl _)) 0 (.int .u64 0)).box (.inr (Nat.le_refl _)) 1 (.int .u64 0)).box (.inr (Nat.le_refl _)) 2 (.slice a4 3 c4)) (by have := HR.out.lt; simp; omega) (Nat.le_refl _))
              clear e0 e1 e2 g0 g1 g2'
              clear HR
              have HR := HR'
              clear HR'
              clear HOM
              have HOM := HOM'
              clear HOM'
              clear hK K hHeld
              have hHeld := hHeld2
              clear hHeld2
              try simp only [Act.put, List.setIfInBounds_toArray, List.set_cons_zero, List.set_cons_succ, List.getElem_toArray, List.getElem_cons_succ, List.getElem_cons_zero]
              generalize (((z4.setCell ⟨N2, 0, none⟩ (.int .u64 0)).setCell ⟨N2, 1, none⟩ (.int .u64 0)).setCell ⟨N2, 2, none⟩ (.slice a4 3 c4)) = z5 at *
              refine wpAnyH_take (i := 10) (v := ?_) rfl (by kernel_rfl) (by kernel_rfl) (by kernel_rfl) (fun _ _ _ h => h) (Or.inl ⟨by rfl, ?_⟩) (by assumption) ?_
              rotate_left
              · intro z hSz
                clear hSz
                go_simp
                try with_reducible rfl
              try simp only [Act.put, List.setIfInBounds_toArray, List.set_cons_zero, List.set_cons_succ, List.getElem_toArray, List.getElem_cons_succ, List.getElem_cons_zero]
              refine wpAnyH_take (i := 11) (v := ?_) rfl (by kernel_rfl) (by kernel_rfl) (by kernel_rfl) (fun _ _ _ h => h) (Or.inl ⟨by rfl, ?_⟩) (by assumption) ?_
              rotate_left
              · intro z hSz
                clear hSz
                go_simp
                try with_reducible rfl
              try simp only [Act.put, List.setIfInBounds_toArray, List.set_cons_zero, List.set_cons_succ, List.getElem_toArray, List.getElem_cons_succ, List.getElem_cons_zero]
              refine wpAnyH_done (by kernel_rfl) ?_ _
              have HB3 := Lib.hid (HBW.out.trans (hHeld.be.mono HBW.out.size))
              have HS3 := Lib.hid (HSL.out.on hHeld.be)
              have C3 := Lib.hid hHeld.c
              have R3 := HR
              have M3 := HOM
              clear hHeld HR HOM HSL HBW HP HN KE4
              obtain ⟨d30, d31, d32⟩ := C3.out.cells
              go_upto_region 4 with (go_at_call 26; go_loud ((with_reducible refine (jn32 _ _ HS3.out).mono ?_); rintro e y1 ⟨⟨a5, c5, rfl⟩, hb⟩; have HB4 := Lib.hid (HB3.out.trans (hb.mono HB3.out.size)); have HS4 := Lib.hid (HS3.out.on hb); have C4 := Lib.hid (C3.out.below hb); have R4 := Lib.hid (R3.out.below hb); have M4 := Lib.hid (M3.out.on hb); clear hb))
              have ha : Below y1.heap.size y1 (y1.alloc (.cells #[.int .u64 0, .int .u64 0, .slice a5 0 c5] 25)) := ((Below.refl _ _).alloc (Nat.le_refl _) _)
              have HB5 := Lib.hid (HB4.out.trans (ha.mono HB4.out.size))
              have HS5 := Lib.hid (HS4.out.on ha)
              have C5 := Lib.hid (C4.out.below ha)
              have R5 := Lib.hid (R4.out.below ha)
              have M5 := Lib.hid (M4.out.on ha)
              clear ha C4 R4 M4 HS4 HB4
              generalize y1.alloc (.cells #[.int .u64 0, .int .u64 0, .slice a5 0 c5] 25) = y1a at *
              obtain ⟨d50, d51, d52⟩ := C5.out.cells
              obtain ⟨e50, e51, e52⟩ := R5.out.cells
              go_upto_region 6 with (first | (go_at_call 9; go_loud ((with_reducible refine (en3 _ _ _ M5.out).mono ?_); rintro e y2 ⟨rfl, hb⟩; have HB6 := Lib.hid (HB5.out.trans (hb.mono HB5.out.size)); have HS6 := Lib.hid (HS5.out.on hb); have C6 := Lib.hid (C5.out.below hb); have R6 := Lib.hid (R5.out.below hb); have M6 := Lib.hid (M5.out.on hb); obtain ⟨d60, d61, d62⟩ := C6.out.cells; clear hb)) | (go_at_call 28; go_loud ((with_reducible refine (tr3 _ _ HS6.out).mono ?_); rintro e y3 ⟨⟨a6, c6, rfl, hs6⟩, hb⟩; have HB7 := Lib.hid (HB6.out.trans (hb.mono HB6.out.size)); have HS7 := Lib.hid (HS6.out.on hb); have C7 := Lib.hid (C6.out.below hb); have HT7 := Lib.hid hs6; clear hb hs6)))
              have ha : Below y3.heap.size y3 (y3.alloc (.cells #[.int .u64 2, .int .u64 1, .slice a6 1 c6] 25)) := ((Below.refl _ _).alloc (Nat.le_refl _) _)
              have HB8 := Lib.hid (HB7.out.trans (ha.mono HB7.out.size))
              have HS8 := Lib.hid (HS7.out.on ha)
              have C8 := Lib.hid (C7.out.below ha)
              have HT8 := Lib.hid (HT7.out.on ha)
              have R8 := Lib.hid (Bx3.made y3 (.int .u64 2) (.int .u64 1) (.slice a6 1 c6) 25)
              clear ha C7 HS7 HB7 HT7
              generalize y3.alloc (.cells #[.int .u64 2, .int .u64 1, .slice a6 1 c6] 25) = y3a at *
              generalize y3.heap.size = N6 at *
              obtain ⟨d80, d81, d82⟩ := C8.out.cells
              obtain ⟨e80, e81, e82⟩ := R8.out.cells
              go_wp2_with (go_at_call 11; go_loud ((with_reducible refine (te3 _ _ _ HT8.out).mono ?_); rintro e y4 ⟨rfl, hb⟩; have HB9 := Lib.hid (HB8.out.trans (hb.mono HB8.out.size)); have HS9 := Lib.hid (HS8.out.on hb); have C9 := Lib.hid (C8.out.below hb); have R9 := Lib.hid (R8.out.below hb); obtain ⟨d90, d91, d92⟩ := C9.out.cells; clear hb))
              go_wp2_with (go_at_call 17; go_loud ((with_reducible refine (nw3 _ _ HS9.out).mono ?_); rintro e y5 ⟨rfl, hb⟩; have HB10 := Lib.hid (HB9.out.trans (hb.mono HB9.out.size)); have R10 := Lib.hid (R9.out.below hb); obtain ⟨e100, e101, e102⟩ := R10.out.cells; clear hb))
              go_wp2
              go_ret
              exact ⟨rfl, HB10.out⟩
          refine AllReadyH.cons rfl (fun K hK => ?_) AllReadyH.nil
          go_simp
          have ha : Below z2.heap.size z2 (z2.alloc (.cells #[.int .u64 0, .int .u64 0, .slice none 0 0] 25)) := (Below.refl _ _).alloc (Nat.le_refl _) _
          have HR := Lib.hid (Bx3.made z2 (.int .u64 0) (.int .u64 0) (.slice none 0 0) 25)
          have HN := Lib.hid hHeld.be.size
          refine hK.out _ _ (hHeld.go ha) (fun hHeld2 => ?_)
          have HSA' := Lib.hid (HSA.out.on ha)
          clear HSA
          have HSA := HSA'
          clear HSA'
          clear ha
          clear hK K hHeld
          have hHeld := hHeld2
          clear hHeld2
          try simp only [Act.put, List.setIfInBounds_toArray, List.set_cons_zero, List.set_cons_succ, List.getElem_toArray, List.getElem_cons_succ, List.getElem_cons_zero]
          generalize z2.alloc (.cells #[.int .u64 0, .int .u64 0, .slice none 0 0] 25) = z3 at *
          generalize z2.heap.size = N2 at *
          refine wpAnyH_ready (rs := [3]) (by kernel_rfl) (by simp) ?_
          refine AllReadyH.cons rfl (fun K hK => ?_) AllReadyH.nil
          go_simp
          refine (jn31 _ _ _ (HSL.out.on hHeld.be) HSA.out).mono ?_
          rintro e z4 ⟨⟨a4, c4, rfl, ho⟩, hb⟩
          try dsimp only
          refine hK.out _ _ (hHeld.go hb) (fun hHeld2 => ?_)
          have HLT := Lib.hid HR.out.lt
          have HR' := Lib.hid (HR.out.below hb)
          clear HR
          have HR := HR'
          clear HR'
          have HOM := Lib.hid ho
          clear hb ho HSA
          clear hK K hHeld
          have hHeld := hHeld2
          clear hHeld2
          try simp only [Act.put, List.setIfInBounds_toArray, List.set_cons_zero, List.set_cons_succ, List.getElem_toArray, List.getElem_cons_succ, List.getElem_cons_zero]
          refine wpAnyH_take (i := 4) (v := ?_) rfl (by kernel_rfl) (by kernel_rfl) (by kernel_rfl) (fun _ _ _ h => h) (Or.inl ⟨by rfl, ?_⟩) (by assumption) ?_
          rotate_left
          · intro z hSz
            clear hSz
            go_simp
            try with_reducible rfl
          try simp only [Act.put, List.setIfInBounds_toArray, List.set_cons_zero, List.set_cons_succ, List.getElem_toArray, List.getElem_cons_succ, List.getElem_cons_zero]
          refine wpAnyH_take (i := 5) (v := ?_) rfl (by kernel_rfl) (by kernel_rfl) (by kernel_rfl) (fun _ _ _ h => h) (Or.inl ⟨by rfl, ?_⟩) (by assumption) ?_
          rotate_left
          · intro z hSz
            clear hSz
            go_simp
            try with_reducible rfl
          try simp only [Act.put, List.setIfInBounds_toArray, List.set_cons_zero, List.set_cons_succ, List.getElem_toArray, List.getElem_cons_succ, List.getElem_cons_zero]
          refine wpAnyH_take (i := 6) (v := ?_) rfl (by kernel_rfl) (by kernel_rfl) (by kernel_rfl) (fun _ _ _ h => h) (Or.inl ⟨by rfl, ?_⟩) (by assumption) ?_
          rotate_left
          · intro z hSz
            clear hSz
            go_simp
            try with_reducible rfl
          try simp only [Act.put, List.setIfInBounds_toArray, List.set_cons_zero, List.set_cons_succ, List.getElem_toArray, List.getElem_cons_succ, List.getElem_cons_zero]
          refine wpAnyH_take (i := 7) (v := ?_) rfl (by kernel_rfl) (by kernel_rfl) (by kernel_rfl) (fun _ _ _ h => h) (Or.inl ⟨by rfl, ?_⟩) (by assumption) ?_
          rotate_left
          · intro z hSz
            clear hSz
            go_simp
            try with_reducible rfl
          try simp only [Act.put, List.setIfInBounds_toArray, List.set_cons_zero, List.set_cons_succ, List.getElem_toArray, List.getElem_cons_succ, List.getElem_cons_zero]
          refine wpAnyH_ready (rs := [9]) (by kernel_rfl) (by simp) ?_
          refine AllReadyH.cons rfl (fun K hK => ?_) AllReadyH.nil
          obtain ⟨e0, e1, e2⟩ := HR.out.cells
          obtain ⟨g0, g1, g2'⟩ := HR.out.fz
          go_simp
          refine hK.out _ _ (((hHeld.put HN.out HP.out 0 _).put HN.out HP.out 1 _).put HN.out HP.out 2 _) (fun hHeld2 => ?_)
          have HR' := Lib.hid (((HR.out.set0 (.int .u64 0)).set1 (.int .u64 0)).set2 (.slice a4 3 c4))
          have HOM' := Lib.hid ((((HOM.out.put HLT.out 0 (.int .u64 0)).put HLT.out 1 (.int .u64 0)).put HLT.out 2 (.slice a4 3 c4)).sl.more (Nat.le_refl _) (Nat.zero_le _))
          clear e0 e1 e2 g0 g1 g2'
          clear HR
          have HR := HR'
          clear HR'
          clear HOM
          have HOM := HOM'
          clear HOM'
          clear hK K hHeld
          have hHeld := hHeld2
          clear hHeld2
          try simp only [Act.put, List.setIfInBounds_toArray, List.set_cons_zero, List.set_cons_succ, List.getElem_toArray, List.getElem_cons_succ, List.getElem_cons_zero]
          generalize (((z4.setCell ⟨N2, 0, none⟩ (.int .u64 0)).setCell ⟨N2, 1, none⟩ (.int .u64 0)).setCell ⟨N2, 2, none⟩ (.slice a4 3 c4)) = z5 at *
          refine wpAnyH_take (i := 10) (v := ?_) rfl (by kernel_rfl) (by kernel_rfl) (by kernel_rfl) (fun _ _ _ h => h) (Or.inl ⟨by rfl, ?_⟩) (by assumption) ?_
          rotate_left
          · intro z hSz
            clear hSz
            go_simp
            try with_reducible rfl
          try simp only [Act.put, List.setIfInBounds_toArray, List.set_cons_zero, List.set_cons_succ, List.getElem_toArray, List.getElem_cons_succ, List.getElem_cons_zero]
          refine wpAnyH_take (i := 11) (v := ?_) rfl (by kernel_rfl) (by kernel_rfl) (by kernel_rfl) (fun _ _ _ h => h) (Or.inl ⟨by rfl, ?_⟩) (by assumption) ?_
          rotate_left
          · intro z hSz
            clear hSz
            go_simp
            try with_reducible rfl
          try simp only [Act.put, List.setIfInBounds_toArray, List.set_cons_zero, List.set_cons_succ, List.getElem_toArray, List.getElem_cons_succ, List.getElem_cons_zero]
          refine wpAnyH_done (by kernel_rfl) ?_ _
          have HB3 := Lib.hid (HBW.out.trans (hHeld.be.mono HBW.out.size))
          have HS3 := Lib.hid (HSL.out.on hHeld.be)
          have C3 := Lib.hid hHeld.c
          have R3 := HR
          have M3 := HOM
          clear hHeld HR HOM HSL HBW HP HN KE4
          obtain ⟨d30, d31, d32⟩ := C3.out.cells
          go_upto_region 4 with (go_at_call 26; go_loud ((with_reducible refine (jn32 _ _ HS3.out).mono ?_); rintro e y1 ⟨⟨a5, c5, rfl⟩, hb⟩; have HB4 := Lib.hid (HB3.out.trans (hb.mono HB3.out.size)); have HS4 := Lib.hid (HS3.out.on hb); have C4 := Lib.hid (C3.out.below hb); have R4 := Lib.hid (R3.out.below hb); have M4 := Lib.hid (M3.out.on hb); clear hb))
          have ha : Below y1.heap.size y1 (y1.alloc (.cells #[.int .u64 0, .int .u64 0, .slice a5 0 c5] 25)) := ((Below.refl _ _).alloc (Nat.le_refl _) _)
          have HB5 := Lib.hid (HB4.out.trans (ha.mono HB4.out.size))
          have HS5 := Lib.hid (HS4.out.on ha)
          have C5 := Lib.hid (C4.out.below ha)
          have R5 := Lib.hid (R4.out.below ha)
          have M5 := Lib.hid (M4.out.on ha)
          clear ha C4 R4 M4 HS4 HB4
          generalize y1.alloc (.cells #[.int .u64 0, .int .u64 0, .slice a5 0 c5] 25) = y1a at *
          obtain ⟨d50, d51, d52⟩ := C5.out.cells
          obtain ⟨e50, e51, e52⟩ := R5.out.cells
          go_upto_region 6 with (first | (go_at_call 9; go_loud ((with_reducible refine (en3 _ _ _ M5.out).mono ?_); rintro e y2 ⟨rfl, hb⟩; have HB6 := Lib.hid (HB5.out.trans (hb.mono HB5.out.size)); have HS6 := Lib.hid (HS5.out.on hb); have C6 := Lib.hid (C5.out.below hb); have R6 := Lib.hid (R5.out.below hb); have M6 := Lib.hid (M5.out.on hb); obtain ⟨d60, d61, d62⟩ := C6.out.cells; clear hb)) | (go_at_call 28; go_loud ((with_reducible refine (tr3 _ _ HS6.out).mono ?_); rintro e y3 ⟨⟨a6, c6, rfl, hs6⟩, hb⟩; have HB7 := Lib.hid (HB6.out.trans (hb.mono HB6.out.size)); have HS7 := Lib.hid (HS6.out.on hb); have C7 := Lib.hid (C6.out.below hb); have HT7 := Lib.hid hs6; clear hb hs6)))
          have ha : Below y3.heap.size y3 (y3.alloc (.cells #[.int .u64 2, .int .u64 1, .slice a6 1 c6] 25)) := ((Below.refl _ _).alloc (Nat.le_refl _) _)
          have HB8 := Lib.hid (HB7.out.trans (ha.mono HB7.out.size))
          have HS8 := Lib.hid (HS7.out.on ha)
          have C8 := Lib.hid (C7.out.below ha)
          have HT8 := Lib.hid (HT7.out.on ha)
          have R8 := Lib.hid (Bx3.made y3 (.int .u64 2) (.int .u64 1) (.slice a6 1 c6) 25)
          clear ha C7 HS7 HB7 HT7
          generalize y3.alloc (.cells #[.int .u64 2, .int .u64 1, .slice a6 1 c6] 25) = y3a at *
          generalize y3.heap.size = N6 at *
          obtain ⟨d80, d81, d82⟩ := C8.out.cells
          obtain ⟨e80, e81, e82⟩ := R8.out.cells
          go_wp2_with (go_at_call 11; go_loud ((with_reducible refine (te3 _ _ _ HT8.out).mono ?_); rintro e y4 ⟨rfl, hb⟩; have HB9 := Lib.hid (HB8.out.trans (hb.mono HB8.out.size)); have HS9 := Lib.hid (HS8.out.on hb); have C9 := Lib.hid (C8.out.below hb); have R9 := Lib.hid (R8.out.below hb); obtain ⟨d90, d91, d92⟩ := C9.out.cells; clear hb))
          go_wp2_with (go_at_call 17; go_loud ((with_reducible refine (nw3 _ _ HS9.out).mono ?_); rintro e y5 ⟨rfl, hb⟩; have HB10 := Lib.hid (HB9.out.trans (hb.mono HB9.out.size)); have R10 := Lib.hid (R9.out.below hb); obtain ⟨e100, e101, e102⟩ := R10.out.cells; clear hb))
          go_wp2
          go_ret
          exact ⟨rfl, HB10.out⟩
      refine AllReadyH.cons rfl (fun K hK => ?_) AllReadyH.nil
      go_simp
      have ha : Below z1.heap.size z1 (z1.alloc (.cells #[.int .u64 0, .int .u64 0, .slice none 0 0] 25)) := (Below.refl _ _).alloc (Nat.le_refl _) _
      have HR := Lib.hid (Bx3.made z1 (.int .u64 0) (.int .u64 0) (.slice none 0 0) 25)
      have HN := Lib.hid hHeld.be.size
      refine hK.out _ _ (hHeld.go ha) (fun hHeld2 => ?_)
      clear ha
      clear hK K hHeld
      have hHeld := hHeld2
      clear hHeld2
      try simp only [Act.put, List.setIfInBounds_toArray, List.set_cons_zero, List.set_cons_succ, List.getElem_toArray, List.getElem_cons_succ, List.getElem_cons_zero]
      generalize z1.alloc (.cells #[.int .u64 0, .int .u64 0, .slice none 0 0] 25) = z2 at *
      generalize z1.heap.size = N2 at *
      refine wpAnyH_ready (rs := [2]) (by kernel_rfl) (by simp) ?_
      refine AllReadyH.cons rfl (fun K hK => ?_) AllReadyH.nil
      go_simp
      have ha : Below z2.heap.size z2 (z2.alloc (.cells #[.int .u64 3, .int .u64 3, .int .u8 1, .string ⟨#[]⟩, .slice none 0 0] 53)) := (Below.refl _ _).alloc (Nat.le_refl _) _
      have HSA := Lib.hid (Sl.new1 z2)
      refine hK.out _ _ (hHeld.go ha) (fun hHeld2 => ?_)
      have HR' := Lib.hid (HR.out.below ha)
      clear HR
      have HR := HR'
      clear HR'
      clear ha
      clear hK K hHeld
      have hHeld := hHeld2
      clear hHeld2
      try simp only [Act.put, List.setIfInBounds_toArray, List.set_cons_zero, List.set_cons_succ, List.getElem_toArray, List.getElem_cons_succ, List.getElem_cons_zero]
      generalize z2.alloc (.cells #[.int .u64 3, .int .u64 3, .int .u8 1, .string ⟨#[]⟩, .slice none 0 0] 53) = z3 at *
      generalize z2.heap.size = g2 at *
      refine wpAnyH_ready (rs := [3]) (by kernel_rfl) (by simp) ?_
      refine AllReadyH.cons rfl (fun K hK => ?_) AllReadyH.nil
      go_simp
      refine (jn31 _ _ _ (HSL.out.on hHeld.be) HSA.out).mono ?_
      rintro e z4 ⟨⟨a4, c4, rfl, ho⟩, hb⟩
      try dsimp only
      refine hK.out _ _ (hHeld.go hb) (fun hHeld2 => ?_)
      have HLT := Lib.hid HR.out.lt
      have HR' := Lib.hid (HR.out.below hb)
      clear HR
      have HR := HR'
      clear HR'
      have HOM := Lib.hid ho
      clear hb ho HSA
      clear hK K hHeld
      have hHeld := hHeld2
      clear hHeld2
      try simp only [Act.put, List.setIfInBounds_toArray, List.set_cons_zero, List.set_cons_succ, List.getElem_toArray, List.getElem_cons_succ, List.getElem_cons_zero]
      refine wpAnyH_take (i := 4) (v := ?_) rfl (by kernel_rfl) (by kernel_rfl) (by kernel_rfl) (fun _ _ _ h => h) (Or.inl ⟨by rfl, ?_⟩) (by assumption) ?_
      rotate_left
      · intro z hSz
        clear hSz
        go_simp
        try with_reducible rfl
      try simp only [Act.put, List.setIfInBounds_toArray, List.set_cons_zero, List.set_cons_succ, List.getElem_toArray, List.getElem_cons_succ, List.getElem_cons_zero]
      refine wpAnyH_take (i := 5) (v := ?_) rfl (by kernel_rfl) (by kernel_rfl) (by kernel_rfl) (fun _ _ _ h => h) (Or.inl ⟨by rfl, ?_⟩) (by assumption) ?_
      rotate_left
      · intro z hSz
        clear hSz
        go_simp
        try with_reducible rfl
      try simp only [Act.put, List.setIfInBounds_toArray, List.set_cons_zero, List.set_cons_succ, List.getElem_toArray, List.getElem_cons_succ, List.getElem_cons_zero]
      refine wpAnyH_take (i := 6) (v := ?_) rfl (by kernel_rfl) (by kernel_rfl) (by kernel_rfl) (fun _ _ _ h => h) (Or.inl ⟨by rfl, ?_⟩) (by assumption) ?_
      rotate_left
      · intro z hSz
        clear hSz
        go_simp
        try with_reducible rfl
      try simp only [Act.put, List.setIfInBounds_toArray, List.set_cons_zero, List.set_cons_succ, List.getElem_toArray, List.getElem_cons_succ, List.getElem_cons_zero]
      refine wpAnyH_take (i := 7) (v := ?_) rfl (by kernel_rfl) (by kernel_rfl) (by kernel_rfl) (fun _ _ _ h => h) (Or.inl ⟨by rfl, ?_⟩) (by assumption) ?_
      rotate_left
      · intro z hSz
        clear hSz
        go_simp
        try with_reducible rfl
      try simp only [Act.put, List.setIfInBounds_toArray, List.set_cons_zero, List.set_cons_succ, List.getElem_toArray, List.getElem_cons_succ, List.getElem_cons_zero]
      refine wpAnyH_ready (rs := [9]) (by kernel_rfl) (by simp) ?_
      refine AllReadyH.cons rfl (fun K hK => ?_) AllReadyH.nil
      obtain ⟨e0, e1, e2⟩ := HR.out.cells
      obtain ⟨g0, g1, g2'⟩ := HR.out.fz
      go_simp
      refine hK.out _ _ (((hHeld.put HN.out HP.out 0 _).put HN.out HP.out 1 _).put HN.out HP.out 2 _) (fun hHeld2 => ?_)
      have HR' := Lib.hid (((HR.out.set0 (.int .u64 0)).set1 (.int .u64 0)).set2 (.slice a4 3 c4))
      have HOM' := Lib.hid ((((HOM.out.put HLT.out 0 (.int .u64 0)).put HLT.out 1 (.int .u64 0)).put HLT.out 2 (.slice a4 3 c4)).sl.more (Nat.le_refl _) (Nat.zero_le _))
      clear e0 e1 e2 g0 g1 g2'
      clear HR
      have HR := HR'
      clear HR'
      clear HOM
      have HOM := HOM'
      clear HOM'
      clear hK K hHeld
      have hHeld := hHeld2
      clear hHeld2
      try simp only [Act.put, List.setIfInBounds_toArray, List.set_cons_zero, List.set_cons_succ, List.getElem_toArray, List.getElem_cons_succ, List.getElem_cons_zero]
      generalize (((z4.setCell ⟨N2, 0, none⟩ (.int .u64 0)).setCell ⟨N2, 1, none⟩ (.int .u64 0)).setCell ⟨N2, 2, none⟩ (.slice a4 3 c4)) = z5 at *
      refine wpAnyH_take (i := 10) (v := ?_) rfl (by kernel_rfl) (by kernel_rfl) (by kernel_rfl) (fun _ _ _ h => h) (Or.inl ⟨by rfl, ?_⟩) (by assumption) ?_
      rotate_left
      · intro z hSz
        clear hSz
        go_simp
        try with_reducible rfl
      try simp only [Act.put, List.setIfInBounds_toArray, List.set_cons_zero, List.set_cons_succ, List.getElem_toArray, List.getElem_cons_succ, List.getElem_cons_zero]
      refine wpAnyH_take (i := 11) (v := ?_) rfl (by kernel_rfl) (by kernel_rfl) (by kernel_rfl) (fun _ _ _ h => h) (Or.inl ⟨by rfl, ?_⟩) (by assumption) ?_
      rotate_left
      · intro z hSz
        clear hSz
        go_simp
        try with_reducible rfl
      try simp only [Act.put, List.setIfInBounds_toArray, List.set_cons_zero, List.set_cons_succ, List.getElem_toArray, List.getElem_cons_succ, List.getElem_cons_zero]
      refine wpAnyH_done (by kernel_rfl) ?_ _
      have HB3 := Lib.hid (HBW.out.trans (hHeld.be.mono HBW.out.size))
      have HS3 := Lib.hid (HSL.out.on hHeld.be)
      have C3 := Lib.hid hHeld.c
      have R3 := HR
      have M3 := HOM
      clear hHeld HR HOM HSL HBW HP HN KE4
      obtain ⟨d30, d31, d32⟩ := C3.out.cells
      go_upto_region 4 with (go_at_call 26; go_loud ((with_reducible refine (jn32 _ _ HS3.out).mono ?_); rintro e y1 ⟨⟨a5, c5, rfl⟩, hb⟩; have HB4 := Lib.hid (HB3.out.trans (hb.mono HB3.out.size)); have HS4 := Lib.hid (HS3.out.on hb); have C4 := Lib.hid (C3.out.below hb); have R4 := Lib.hid (R3.out.below hb); have M4 := Lib.hid (M3.out.on hb); clear hb))
      have ha : Below y1.heap.size y1 (y1.alloc (.cells #[.int .u64 0, .int .u64 0, .slice a5 0 c5] 25)) := ((Below.refl _ _).alloc (Nat.le_refl _) _)
      have HB5 := Lib.hid (HB4.out.trans (ha.mono HB4.out.size))
      have HS5 := Lib.hid (HS4.out.on ha)
      have C5 := Lib.hid (C4.out.below ha)
      have R5 := Lib.hid (R4.out.below ha)
      have M5 := Lib.hid (M4.out.on ha)
      clear ha C4 R4 M4 HS4 HB4
      generalize y1.alloc (.cells #[.int .u64 0, .int .u64 0, .slice a5 0 c5] 25) = y1a at *
      obtain ⟨d50, d51, d52⟩ := C5.out.cells
      obtain ⟨e50, e51, e52⟩ := R5.out.cells
      go_upto_region 6 with (first | (go_at_call 9; go_loud ((with_reducible refine (en3 _ _ _ M5.out).mono ?_); rintro e y2 ⟨rfl, hb⟩; have HB6 := Lib.hid (HB5.out.trans (hb.mono HB5.out.size)); have HS6 := Lib.hid (HS5.out.on hb); have C6 := Lib.hid (C5.out.below hb); have R6 := Lib.hid (R5.out.below hb); have M6 := Lib.hid (M5.out.on hb); obtain ⟨d60, d61, d62⟩ := C6.out.cells; clear hb)) | (go_at_call 28; go_loud ((with_reducible refine (tr3 _ _ HS6.out).mono ?_); rintro e y3 ⟨⟨a6, c6, rfl, hs6⟩, hb⟩; have HB7 := Lib.hid (HB6.out.trans (hb.mono HB6.out.size)); have HS7 := Lib.hid (HS6.out.on hb); have C7 := Lib.hid (C6.out.below hb); have HT7 := Lib.hid hs6; clear hb hs6)))
      have ha : Below y3.heap.size y3 (y3.alloc (.cells #[.int .u64 2, .int .u64 1, .slice a6 1 c6] 25)) := ((Below.refl _ _).alloc (Nat.le_refl _) _)
      have HB8 := Lib.hid (HB7.out.trans (ha.mono HB7.out.size))
      have HS8 := Lib.hid (HS7.out.on ha)
      have C8 := Lib.hid (C7.out.below ha)
      have HT8 := Lib.hid (HT7.out.on ha)
      have R8 := Lib.hid (Bx3.made y3 (.int .u64 2) (.int .u64 1) (.slice a6 1 c6) 25)
      clear ha C7 HS7 HB7 HT7
      generalize y3.alloc (.cells #[.int .u64 2, .int .u64 1, .slice a6 1 c6] 25) = y3a at *
      generalize y3.heap.size = N6 at *
      obtain ⟨d80, d81, d82⟩ := C8.out.cells
      obtain ⟨e80, e81, e82⟩ := R8.out.cells
      go_wp2_with (go_at_call 11; go_loud ((with_reducible refine (te3 _ _ _ HT8.out).mono ?_); rintro e y4 ⟨rfl, hb⟩; have HB9 := Lib.hid (HB8.out.trans (hb.mono HB8.out.size)); have HS9 := Lib.hid (HS8.out.on hb); have C9 := Lib.hid (C8.out.below hb); have R9 := Lib.hid (R8.out.below hb); obtain ⟨d90, d91, d92⟩ := C9.out.cells; clear hb))
      go_wp2_with (go_at_call 17; go_loud ((with_reducible refine (nw3 _ _ HS9.out).mono ?_); rintro e y5 ⟨rfl, hb⟩; have HB10 := Lib.hid (HB9.out.trans (hb.mono HB9.out.size)); have R10 := Lib.hid (R9.out.below hb); obtain ⟨e100, e101, e102⟩ := R10.out.cells; clear hb))
      go_wp2
      go_ret
      exact ⟨rfl, HB10.out⟩
  refine AllReadyH.cons rfl (fun K hK => ?_) AllReadyH.nil
  go_simp
  have ha : Below z0.heap.size z0 (z0.alloc (.cells #[.int .u64 0, .int .u64 0, .slice none 0 0] 25)) := (Below.refl _ _).alloc (Nat.le_refl _) _
  have HR := Lib.hid (Bx3.made z0 (.int .u64 0) (.int .u64 0) (.slice none 0 0) 25)
  have HN := Lib.hid hHeld.be.size
  refine hK.out _ _ (hHeld.go ha) (fun hHeld2 => ?_)
  clear ha
  clear hK K hHeld
  have hHeld := hHeld2
  clear hHeld2
  try simp only [Act.put, List.setIfInBounds_toArray, List.set_cons_zero, List.set_cons_succ, List.getElem_toArray, List.getElem_cons_succ, List.getElem_cons_zero]
  generalize z0.alloc (.cells #[.int .u64 0, .int .u64 0, .slice none 0 0] 25) = z1 at *
  generalize z0.heap.size = N2 at *
  refine wpAnyH_ready (rs := [1]) (by kernel_rfl) (by simp) ?_
  refine AllReadyH.cons rfl (fun K hK => ?_) AllReadyH.nil
  go_simp
  refine (KE4.out _).mono ?_
  rintro e z2 ⟨rfl, hb⟩
  try dsimp only
  refine hK.out _ _ (hHeld.go hb) (fun hHeld2 => ?_)
  have HR' := Lib.hid (HR.out.below hb)
  clear HR
  have HR := HR'
  clear HR'
  clear hb
  clear hK K hHeld
  have hHeld := hHeld2
  clear hHeld2
  try simp only [Act.put, List.setIfInBounds_toArray, List.set_cons_zero, List.set_cons_succ, List.getElem_toArray, List.getElem_cons_succ, List.getElem_cons_zero]
  refine wpAnyH_ready (rs := [2]) (by kernel_rfl) (by simp) ?_
  refine AllReadyH.cons rfl (fun K hK => ?_) AllReadyH.nil
  go_simp
  have ha : Below z2.heap.size z2 (z2.alloc (.cells #[.int .u64 3, .int .u64 3, .int .u8 1, .string ⟨#[]⟩, .slice none 0 0] 53)) := (Below.refl _ _).alloc (Nat.le_refl _) _
  have HSA := Lib.hid (Sl.new1 z2)
  refine hK.out _ _ (hHeld.go ha) (fun hHeld2 => ?_)
  have HR' := Lib.hid (HR.out.below ha)
  clear HR
  have HR := HR'
  clear HR'
  clear ha
  clear hK K hHeld
  have hHeld := hHeld2
  clear hHeld2
  try simp only [Act.put, List.setIfInBounds_toArray, List.set_cons_zero, List.set_cons_succ, List.getElem_toArray, List.getElem_cons_succ, List.getElem_cons_zero]
  generalize z2.alloc (.cells #[.int .u64 3, .int .u64 3, .int .u8 1, .string ⟨#[]⟩, .slice none 0 0] 53) = z3 at *
  generalize z2.heap.size = g2 at *
  refine wpAnyH_ready (rs := [3]) (by kernel_rfl) (by simp) ?_
  refine AllReadyH.cons rfl (fun K hK => ?_) AllReadyH.nil
  go_simp
  refine (jn31 _ _ _ (HSL.out.on hHeld.be) HSA.out).mono ?_
  rintro e z4 ⟨⟨a4, c4, rfl, ho⟩, hb⟩
  try dsimp only
  refine hK.out _ _ (hHeld.go hb) (fun hHeld2 => ?_)
  have HLT := Lib.hid HR.out.lt
  have HR' := Lib.hid (HR.out.below hb)
  clear HR
  have HR := HR'
  clear HR'
  have HOM := Lib.hid ho
  clear hb ho HSA
  clear hK K hHeld
  have hHeld := hHeld2
  clear hHeld2
  try simp only [Act.put, List.setIfInBounds_toArray, List.set_cons_zero, List.set_cons_succ, List.getElem_toArray, List.getElem_cons_succ, List.getElem_cons_zero]
  refine wpAnyH_take (i := 4) (v := ?_) rfl (by kernel_rfl) (by kernel_rfl) (by kernel_rfl) (fun _ _ _ h => h) (Or.inl ⟨by rfl, ?_⟩) (by assumption) ?_
  rotate_left
  · intro z hSz
    clear hSz
    go_simp
    try with_reducible rfl
  try simp only [Act.put, List.setIfInBounds_toArray, List.set_cons_zero, List.set_cons_succ, List.getElem_toArray, List.getElem_cons_succ, List.getElem_cons_zero]
  refine wpAnyH_take (i := 5) (v := ?_) rfl (by kernel_rfl) (by kernel_rfl) (by kernel_rfl) (fun _ _ _ h => h) (Or.inl ⟨by rfl, ?_⟩) (by assumption) ?_
  rotate_left
  · intro z hSz
    clear hSz
    go_simp
    try with_reducible rfl
  try simp only [Act.put, List.setIfInBounds_toArray, List.set_cons_zero, List.set_cons_succ, List.getElem_toArray, List.getElem_cons_succ, List.getElem_cons_zero]
  refine wpAnyH_take (i := 6) (v := ?_) rfl (by kernel_rfl) (by kernel_rfl) (by kernel_rfl) (fun _ _ _ h => h) (Or.inl ⟨by rfl, ?_⟩) (by assumption) ?_
  rotate_left
  · intro z hSz
    clear hSz
    go_simp
    try with_reducible rfl
  try simp only [Act.put, List.setIfInBounds_toArray, List.set_cons_zero, List.set_cons_succ, List.getElem_toArray, List.getElem_cons_succ, List.getElem_cons_zero]
  refine wpAnyH_take (i := 7) (v := ?_) rfl (by kernel_rfl) (by kernel_rfl) (by kernel_rfl) (fun _ _ _ h => h) (Or.inl ⟨by rfl, ?_⟩) (by assumption) ?_
  rotate_left
  · intro z hSz
    clear hSz
    go_simp
    try with_reducible rfl
  try simp only [Act.put, List.setIfInBounds_toArray, List.set_cons_zero, List.set_cons_succ, List.getElem_toArray, List.getElem_cons_succ, List.getElem_cons_zero]
  refine wpAnyH_ready (rs := [9]) (by kernel_rfl) (by simp) ?_
  refine AllReadyH.cons rfl (fun K hK => ?_) AllReadyH.nil
  obtain ⟨e0, e1, e2⟩ := HR.out.cells
  obtain ⟨g0, g1, g2'⟩ := HR.out.fz
  go_simp
  refine hK.out _ _ (((hHeld.put HN.out HP.out 0 _).put HN.out HP.out 1 _).put HN.out HP.out 2 _) (fun hHeld2 => ?_)
  have HR' := Lib.hid (((HR.out.set0 (.int .u64 0)).set1 (.int .u64 0)).set2 (.slice a4 3 c4))
  have HOM' := Lib.hid ((((HOM.out.put HLT.out 0 (.int .u64 0)).put HLT.out 1 (.int .u64 0)).put HLT.out 2 (.slice a4 3 c4)).sl.more (Nat.le_refl _) (Nat.zero_le _))
  clear e0 e1 e2 g0 g1 g2'
  clear HR
  have HR := HR'
  clear HR'
  clear HOM
  have HOM := HOM'
  clear HOM'
  clear hK K hHeld
  have hHeld := hHeld2
  clear hHeld2
  try simp only [Act.put, List.setIfInBounds_toArray, List.set_cons_zero, List.set_cons_succ, List.getElem_toArray, List.getElem_cons_succ, List.getElem_cons_zero]
  generalize (((z4.setCell ⟨N2, 0, none⟩ (.int .u64 0)).setCell ⟨N2, 1, none⟩ (.int .u64 0)).setCell ⟨N2, 2, none⟩ (.slice a4 3 c4)) = z5 at *
  refine wpAnyH_take (i := 10) (v := ?_) rfl (by kernel_rfl) (by kernel_rfl) (by kernel_rfl) (fun _ _ _ h => h) (Or.inl ⟨by rfl, ?_⟩) (by assumption) ?_
  rotate_left
  · intro z hSz
    clear hSz
    go_simp
    try with_reducible rfl
  try simp only [Act.put, List.setIfInBounds_toArray, List.set_cons_zero, List.set_cons_succ, List.getElem_toArray, List.getElem_cons_succ, List.getElem_cons_zero]
  refine wpAnyH_take (i := 11) (v := ?_) rfl (by kernel_rfl) (by kernel_rfl) (by kernel_rfl) (fun _ _ _ h => h) (Or.inl ⟨by rfl, ?_⟩) (by assumption) ?_
  rotate_left
  · intro z hSz
    clear hSz
    go_simp
    try with_reducible rfl
  try simp only [Act.put, List.setIfInBounds_toArray, List.set_cons_zero, List.set_cons_succ, List.getElem_toArray, List.getElem_cons_succ, List.getElem_cons_zero]
  refine wpAnyH_done (by kernel_rfl) ?_ _
  have HB3 := Lib.hid (HBW.out.trans (hHeld.be.mono HBW.out.size))
  have HS3 := Lib.hid (HSL.out.on hHeld.be)
  have C3 := Lib.hid hHeld.c
  have R3 := HR
  have M3 := HOM
  clear hHeld HR HOM HSL HBW HP HN KE4
  obtain ⟨d30, d31, d32⟩ := C3.out.cells
  go_upto_region 4 with (go_at_call 26; go_loud ((with_reducible refine (jn32 _ _ HS3.out).mono ?_); rintro e y1 ⟨⟨a5, c5, rfl⟩, hb⟩; have HB4 := Lib.hid (HB3.out.trans (hb.mono HB3.out.size)); have HS4 := Lib.hid (HS3.out.on hb); have C4 := Lib.hid (C3.out.below hb); have R4 := Lib.hid (R3.out.below hb); have M4 := Lib.hid (M3.out.on hb); clear hb))
  have ha : Below y1.heap.size y1 (y1.alloc (.cells #[.int .u64 0, .int .u64 0, .slice a5 0 c5] 25)) := ((Below.refl _ _).alloc (Nat.le_refl _) _)
  have HB5 := Lib.hid (HB4.out.trans (ha.mono HB4.out.size))
  have HS5 := Lib.hid (HS4.out.on ha)
  have C5 := Lib.hid (C4.out.below ha)
  have R5 := Lib.hid (R4.out.below ha)
  have M5 := Lib.hid (M4.out.on ha)
  clear ha C4 R4 M4 HS4 HB4
  generalize y1.alloc (.cells #[.int .u64 0, .int .u64 0, .slice a5 0 c5] 25) = y1a at *
  obtain ⟨d50, d51, d52⟩ := C5.out.cells
  obtain ⟨e50, e51, e52⟩ := R5.out.cells
  go_upto_region 6 with (first | (go_at_call 9; go_loud ((with_reducible refine (en3 _ _ _ M5.out).mono ?_); rintro e y2 ⟨rfl, hb⟩; have HB6 := Lib.hid (HB5.out.trans (hb.mono HB5.out.size)); have HS6 := Lib.hid (HS5.out.on hb); have C6 := Lib.hid (C5.out.below hb); have R6 := Lib.hid (R5.out.below hb); have M6 := Lib.hid (M5.out.on hb); obtain ⟨d60, d61, d62⟩ := C6.out.cells; clear hb)) | (go_at_call 28; go_loud ((with_reducible refine (tr3 _ _ HS6.out).mono ?_); rintro e y3 ⟨⟨a6, c6, rfl, hs6⟩, hb⟩; have HB7 := Lib.hid (HB6.out.trans (hb.mono HB6.out.size)); have HS7 := Lib.hid (HS6.out.on hb); have C7 := Lib.hid (C6.out.below hb); have HT7 := Lib.hid hs6; clear hb hs6)))
  have ha : Below y3.heap.size y3 (y3.alloc (.cells #[.int .u64 2, .int .u64 1, .slice a6 1 c6] 25)) := ((Below.refl _ _).alloc (Nat.le_refl _) _)
  have HB8 := Lib.hid (HB7.out.trans (ha.mono HB7.out.size))
  have HS8 := Lib.hid (HS7.out.on ha)
  have C8 := Lib.hid (C7.out.below ha)
  have HT8 := Lib.hid (HT7.out.on ha)
  have R8 := Lib.hid (Bx3.made y3 (.int .u64 2) (.int .u64 1) (.slice a6 1 c6) 25)
  clear ha C7 HS7 HB7 HT7
  generalize y3.alloc (.cells #[.int .u64 2, .int .u64 1, .slice a6 1 c6] 25) = y3a at *
  generalize y3.heap.size = N6 at *
  obtain ⟨d80, d81, d82⟩ := C8.out.cells
  obtain ⟨e80, e81, e82⟩ := R8.out.cells
  go_wp2_with (go_at_call 11; go_loud ((with_reducible refine (te3 _ _ _ HT8.out).mono ?_); rintro e y4 ⟨rfl, hb⟩; have HB9 := Lib.hid (HB8.out.trans (hb.mono HB8.out.size)); have HS9 := Lib.hid (HS8.out.on hb); have C9 := Lib.hid (C8.out.below hb); have R9 := Lib.hid (R8.out.below hb); obtain ⟨d90, d91, d92⟩ := C9.out.cells; clear hb))
  go_wp2_with (go_at_call 17; go_loud ((with_reducible refine (nw3 _ _ HS9.out).mono ?_); rintro e y5 ⟨rfl, hb⟩; have HB10 := Lib.hid (HB9.out.trans (hb.mono HB9.out.size)); have R10 := Lib.hid (R9.out.below hb); obtain ⟨e100, e101, e102⟩ := R10.out.cells; clear hb))
  go_wp2
  go_ret
  exact ⟨rfl, HB10.out⟩
end Lo
end Go.Proofs.Ytjalmciaaenmjaa
