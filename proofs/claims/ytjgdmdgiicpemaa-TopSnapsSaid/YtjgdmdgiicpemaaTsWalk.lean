/-
  THE WALK of TopSnaps.
-/
import Derived.Test.YtjgdmdgiicpemaaTsMath
import Derived.Test.YtjgdmdgiicpemaaTopBegins
namespace Go.Proofs.Ytjgdmdgiicpemaa
open Go.RowKit Go.Lib Go.Sort
namespace Dk
open Hd (OwnI Bx4)
/-- The disk in the box P, what was kept last in the next one. -/
structure Td (w : World) (P : Nat) (x : World) (dv : Value) (fu : Int) (d : ByteArray) : Prop where
  lo : w.heap.size ≤ P
  hi : P + 2 ≤ x.heap.size
  below : Below w.heap.size w x
  dx : Dx P x dv false fu
  bx : ∃ a b c, Bx4 x (P + 1) a b c (.string d)
theorem Td.on {w x y : World} {P : Nat} {dv : Value} {fu : Int} {d : ByteArray} (h : Td w P x dv fu d) (hb : Below x.heap.size x y) : Td w P y dv fu d :=
  ⟨h.lo, Nat.le_trans h.hi hb.size, h.below.trans (hb.mono h.below.size), h.dx.keep hb (by have := h.hi; omega), by obtain ⟨a, b, c, hx⟩ := h.bx; exact ⟨a, b, c, hx.below hb⟩⟩
theorem Td.put {w x : World} {P : Nat} {dv : Value} {fu : Int} {d : ByteArray} (h : Td w P x dv fu d) {p : Nat} (hp : P + 2 ≤ p) (i : Nat) (u : Value) : Td w P (x.setCell ⟨p, i, none⟩ u) dv fu d :=
  ⟨h.lo, by simpa using h.hi, bset h.below (by show w.heap.size ≤ p; have := h.lo; omega) u, h.dx.far (by omega), by obtain ⟨a, b, c, hx⟩ := h.bx; exact ⟨a, b, c, hx.far (by omega) i u⟩⟩
def stE (x : World) (P : Nat) (v2 : Value) (fu2 : Int) (a b c e : Value) : World := (((((((x.setCell ⟨P, 0, none⟩ v2).setCell ⟨P, 1, none⟩ (.bool false)).setCell ⟨P, 2, none⟩ (.int .i64 fu2)).setCell ⟨P + 1, 0, none⟩ a).setCell ⟨P + 1, 1, none⟩ b).setCell ⟨P + 1, 2, none⟩ c).setCell ⟨P + 1, 3, none⟩ e)
theorem Td.next {w x : World} {P : Nat} {dv : Value} {fu : Int} {d : ByteArray} (h : Td w P x dv fu d) {v2 : Value} {fs2 : List Fl} (hf : Files x x.heap.size v2 fs2) (hh : Hi (P + 2) v2) (fu2 : Int) (a b c : Value) (d2 : ByteArray) :
    Td w P (stE x P v2 fu2 a b c (.string d2)) v2 fu2 d2 ∧ Files (stE x P v2 fu2 a b c (.string d2)) (stE x P v2 fu2 a b c (.string d2)).heap.size v2 fs2 := by
  have hP := h.lo
  have f1 := hf.put3 (u0 := v2) (u1 := .bool false) (u2 := .int .i64 fu2) hh (by omega : P < P + 2)
  have f2 := f1.put (i := 0) (u := a) hh (by omega : P + 1 < P + 2)
  have f3 := f2.put (i := 1) (u := b) hh (by omega : P + 1 < P + 2)
  have f4 := f3.put (i := 2) (u := c) hh (by omega : P + 1 < P + 2)
  have f5 := f4.put (i := 3) (u := .string d2) hh (by omega : P + 1 < P + 2)
  have b1 := below3 (u0 := v2) (u1 := .bool false) (u2 := .int .i64 fu2) h.below hP
  have dd : Dx P (((x.setCell ⟨P, 0, none⟩ v2).setCell ⟨P, 1, none⟩ (.bool false)).setCell ⟨P, 2, none⟩ (.int .i64 fu2)) v2 false fu2 := h.dx.st
  refine ⟨⟨hP, by have := h.hi; simpa [stE] using this, bset (bset (bset (bset b1 (by show w.heap.size ≤ P + 1; omega) _) (by show w.heap.size ≤ P + 1; omega) _) (by show w.heap.size ≤ P + 1; omega) _) (by show w.heap.size ≤ P + 1; omega) _, (((dd.far (by omega)).far (by omega)).far (by omega)).far (by omega), ?_⟩, f5⟩
  obtain ⟨q0, q1, q2, hx⟩ := h.bx
  exact ⟨a, b, c, (((((((hx.far (by omega) 0 v2).far (by omega) 1 (.bool false)).far (by omega) 2 (.int .i64 fu2)).set0 _).set1 _).set2 _).set3 _)⟩
structure Tr (w : World) (P : Nat) (x : World) (dv : Value) (fu : Int) (fs : List Fl) (k : Nat) (d : ByteArray) : Prop where
  td : Td w P x dv fu d
  files : Files x x.heap.size dv fs
  hh : Hi (P + 2) dv
  ts : Ts fs k d
  nm : d = ⟨#[]⟩ ∨ Rg.nameB d = true
theorem Tr.on {w x y : World} {P k : Nat} {dv : Value} {fu : Int} {fs : List Fl} {d : ByteArray} (h : Tr w P x dv fu fs k d) (hb : Below x.heap.size x y) : Tr w P y dv fu fs k d := ⟨h.td.on hb, h.files.on hb hb.size, h.hh, h.ts, h.nm⟩
theorem Tr.up {w x : World} {P k : Nat} {dv : Value} {fu : Int} {fs : List Fl} {d : ByteArray} (h : Tr w P x dv fu fs k d) : Tr w P x dv fu fs (k + 1) d := ⟨h.td, h.files, h.hh, h.ts.up (Nat.le_succ _), h.nm⟩
theorem Tr.fuse {w x : World} {P k : Nat} {dv : Value} {fu : Int} {fs : List Fl} {d : ByteArray} (h : Tr w P x dv fu fs k d) (f : Int) : Tr w P (x.setCell ⟨P, 2, none⟩ (.int .i64 f)) dv f fs k d := by
  obtain ⟨⟨h1, h2, h3, ⟨d0, d1, d2, d3, d4, d5⟩, ⟨a, b, c, hx⟩⟩, h5, h6, h7, h8⟩ := h
  refine ⟨⟨h1, by simpa using h2, bset h3 h1 _, ⟨?_, ?_, ?_, ?_, ?_, ?_⟩, ⟨a, b, c, hx.far (by omega) 2 _⟩⟩, h5.put h6 (by omega), h6, h7, h8⟩
  · exact (World.cell?_setCell_other _ _ _ _ (by simp)).trans d0
  · exact (World.cell?_setCell_other _ _ _ _ (by simp)).trans d1
  · exact World.cell?_setCell_same _ _ _ d2
  · exact (World.frozen?_setCell _ _ _ _).trans d3
  · exact (World.frozen?_setCell _ _ _ _).trans d4
  · exact (World.frozen?_setCell _ _ _ _).trans d5
theorem Tr.next {w x : World} {P : Nat} {dv : Value} {fu : Int} {d : ByteArray} (h : Td w P x dv fu d) {v2 : Value} {fs2 : List Fl} (hf : Files x x.heap.size v2 fs2) (hh : Hi (P + 2) v2) (fu2 : Int) (a b c : Value) (d2 : ByteArray) {k : Nat} (ht : Ts fs2 k d2) (hn : d2 = ⟨#[]⟩ ∨ Rg.nameB d2 = true) :
    Tr w P ((((((((x.setCell ⟨P, 0, none⟩ v2).setCell ⟨P, 1, none⟩ (.bool false)).setCell ⟨P, 2, none⟩ (.int .i64 fu2)).setCell ⟨P + 1, 0, none⟩ a).setCell ⟨P + 1, 1, none⟩ b).setCell ⟨P + 1, 2, none⟩ c).setCell ⟨P + 1, 3, none⟩ (.string d2)).drew) v2 fu2 fs2 k d2 := by
  obtain ⟨h1, h2⟩ := h.next hf hh fu2 a b c d2
  unfold stE at h1 h2
  exact Tr.on ⟨h1, h2, hh, ht, hn⟩ (Below.refl _ _).drew
theorem tr_new {w w1 : World} (hb : Below w.heap.size w w1) : Tr w w1.heap.size ((w1.alloc (.cells #[.slice none 0 0, .bool false, .int .i64 (-1)] 27)).alloc (.cells #[.int .u64 0, .int .u64 0, .slice none 0 0, .string ⟨#[]⟩] 30)) (.slice none 0 0) (-1) [] 0 ⟨#[]⟩ := by
  have hx := Bx4.made (w1.alloc (.cells #[.slice none 0 0, .bool false, .int .i64 (-1)] 27)) (.int .u64 0) (.int .u64 0) (.slice none 0 0) (.string ⟨#[]⟩) 30
  rw [World.size_alloc] at hx
  have b1 : Below w1.heap.size w1 (w1.alloc (.cells #[.slice none 0 0, .bool false, .int .i64 (-1)] 27)) := (Below.refl _ _).alloc (Nat.le_refl _) _
  have b2 : Below (w1.alloc (.cells #[.slice none 0 0, .bool false, .int .i64 (-1)] 27)).heap.size (w1.alloc (.cells #[.slice none 0 0, .bool false, .int .i64 (-1)] 27)) ((w1.alloc (.cells #[.slice none 0 0, .bool false, .int .i64 (-1)] 27)).alloc (.cells #[.int .u64 0, .int .u64 0, .slice none 0 0, .string ⟨#[]⟩] 30)) := (Below.refl _ _).alloc (Nat.le_refl _) _
  exact ⟨⟨hb.size, by simp, hb.trans ((b1.trans (b2.mono b1.size)).mono hb.size), (Dx.made w1 (.slice none 0 0) false (-1)).keep b2 (by simp), ⟨_, _, _, hx⟩⟩, nil_files _, hi_none _ _ _, Ts.nil, .inl rfl⟩
theorem one_int {w x : World} {P k : Nat} {dv : Value} {fu : Int} {fs : List Fl} {d : ByteArray} (h : Tr w P x dv fu fs k d) (T U : TypeId) (i n : Value) (q : Value) :
    Tr w P ((x.alloc (.cells #[.int .i64 1] T)).alloc (.cells #[i, q, .slice (some ⟨x.heap.size, 0, none⟩) 1 1, n] U)) dv fu fs k d ∧
    Bx4 ((x.alloc (.cells #[.int .i64 1] T)).alloc (.cells #[i, q, .slice (some ⟨x.heap.size, 0, none⟩) 1 1, n] U)) (x.heap.size + 1) i q (.slice (some ⟨x.heap.size, 0, none⟩) 1 1) n ∧
    Ints ((x.alloc (.cells #[.int .i64 1] T)).alloc (.cells #[i, q, .slice (some ⟨x.heap.size, 0, none⟩) 1 1, n] U)) ((x.alloc (.cells #[.int .i64 1] T)).alloc (.cells #[i, q, .slice (some ⟨x.heap.size, 0, none⟩) 1 1, n] U)).heap.size (.slice (some ⟨x.heap.size, 0, none⟩) 1 1) [1] := by
  have b1 : Below x.heap.size x (x.alloc (.cells #[.int .i64 1] T)) := (Below.refl _ _).alloc (Nat.le_refl _) _
  have b2 : Below (x.alloc (.cells #[.int .i64 1] T)).heap.size (x.alloc (.cells #[.int .i64 1] T)) ((x.alloc (.cells #[.int .i64 1] T)).alloc (.cells #[i, q, .slice (some ⟨x.heap.size, 0, none⟩) 1 1, n] U)) := (Below.refl _ _).alloc (Nat.le_refl _) _
  have hx := Bx4.made (x.alloc (.cells #[.int .i64 1] T)) i q (.slice (some ⟨x.heap.size, 0, none⟩) 1 1) n U
  rw [World.size_alloc] at hx
  have hi : Ints (x.alloc (.cells #[.int .i64 1] T)) (x.heap.size + 1) (.slice (some ⟨x.heap.size, 0, none⟩) 1 1) [1] := ints_new x T [1] (by simp) (by simp)
  rw [← World.size_alloc x (.cells #[.int .i64 1] T)] at hi
  exact ⟨(h.on b1).on b2, hx, hi.on b2⟩
theorem ts_save {w x : World} {P k : Nat} {dv : Value} {fu : Int} {fs : List Fl} {d : ByteArray} (h : Tr w P x dv fu fs k d) (hk : k < 1000) {n : ByteArray} (hn : Rg.nameB n = true) (hlo : -9223372036854775808 ≤ fu) (hhi : fu ≤ 9223372036854775807) (k1 : Nat) (hk1 : k1 = k + 1) :
    ∃ (f3 : List Fl) (dn3 : Bool) (fu3 : Int) (r3 : Nat), (∀ (u : Value) (y : World), Files y y.heap.size dv fs → Ints y y.heap.size u [1] → Calls Try.prog 6 #[.agg #[dv, .bool false, .int .i64 fu], .agg #[.int .u64 (k1 : Nat), .int .u64 0, u, .string n]] y (DoW y (.slice none 0 0) f3 dn3 fu3 r3)) ∧
      (r3 = 0 ∨ r3 = 8) ∧ chkN f3 = 0 ∧ (r3 = 0 → dn3 = false ∧ Ts f3 (k + 1) n) ∧ (r3 = 8 → ∀ ks, Ts (crS f3 ks f3.length) (k + 1) d) := by
  subst hk1
  obtain ⟨o, ho⟩ : ∃ o, o = seqO nSn nSt (snC (k + 1) 0 [1] n) fs false fu 4 := ⟨_, rfl⟩
  obtain ⟨s1, s2, s3, s4, s5, s6, s7⟩ := h.ts.save hk hn fu hlo hhi o ho
  have hR := ts_rs (i := k + 1) (by omega) hn
  have hr0 : rfN fs false (k + 1) = 0 := by
    unfold rfN
    rw [h.ts.er, if_neg (by simp), if_neg (by have := h.ts.le; omega)]
  refine ⟨o.fs, o.dn, o.fu, o.r, fun u y hf hu => ?_, s2, s3, s6, s7⟩
  have hs := save_any 70000 (Nat.le_refl _) (by omega) dv fs fu h.ts.chk h.ts.sm hlo hhi (k + 1) 0 u [1] n (by omega) (by omega) hR.chk hr0 y hf hu
  rw [show ([1] : List Int).map Int.toNat = [1] from rfl, ← ho] at hs
  exact hs
theorem ts_load {fs : List Fl} {k : Nat} {d : ByteArray} (h : Ts fs k d) : ∃ (li lt : Nat) (lm : List Nat), ∀ (u : Value) (fu : Int) (x : World), Files x x.heap.size u fs → Calls Try.prog 8 #[.agg #[u, .bool false, .int .i64 fu]] x fun e w' => (∃ v', e = .returned (.tuple #[.agg #[.int .u64 (li : Nat), .int .u64 (lt : Nat), v', .string d], .int .i64 0]) ∧ OwnI w' x.heap.size v' lm) ∧ Below x.heap.size x w' := by
  refine ⟨lsI fs false, lsT fs false, lsM fs false, fun u fu x hx => ?_⟩
  have h1 := load_snap_any u false fu fs x hx
  unfold LoadS at h1
  rw [h.er, h.d] at h1
  exact h1
theorem ints_put {x : World} {zB : Nat} {ks : List Int} {n c p j : Nat} (h : Ints x x.heap.size (.slice (some ⟨zB, 0, none⟩) n c) ks) (hp : p ≠ zB) (u : Value) : Ints (x.setCell ⟨p, j, none⟩ u) (x.setCell ⟨p, j, none⟩ u).heap.size (.slice (some ⟨zB, 0, none⟩) n c) ks := by
  obtain ⟨a, c', he, h1, h2, h3⟩ := h
  refine ⟨a, c', he, h1, h2, fun hq => ?_⟩
  obtain ⟨b, off, ha, hlt, hc⟩ := h3 hq
  refine ⟨b, off, ha, by simpa using hlt, fun i hi => ?_⟩
  have hb : b = zB := by
    rw [ha] at he
    simp only [Value.slice.injEq, Option.some.injEq, Addr.mk.injEq] at he
    exact he.1.1.symm
  exact (World.cell?_setCell_other _ _ _ _ (by intro e; exact hp (by rw [← hb]; exact (congrArg Addr.block e)))).trans (hc i hi)
set_option maxRecDepth 100000 in
set_option maxHeartbeats 8000000 in
theorem topSnaps (sv fv kv : Value) (ss : List ByteArray) (fz ks : List Int) (w : World) (h0 : Arg.IsStrs w w.heap.size sv ss) (h1 : Ints w w.heap.size fv fz) (h2 : Ints w w.heap.size kv ks) :
    Calls Try.prog 3 #[sv, fv, kv] w fun e w' => e = .returned (.bool true) ∧ Below w.heap.size w w' := by
  obtain ⟨ka, kc, hkv, -⟩ := id h2
  subst hkv
  have HK : Hid (∀ x, Below w.heap.size w x → Ints x x.heap.size (.slice ka ks.length kc) ks) := fun x hb => h2.on hb
  obtain ⟨a0, c0, rfl, hs1, hs2, hs3⟩ := h0
  obtain ⟨fa, fc, rfl, hf1, hf2, hf3⟩ := h1
  have HS1 := Lib.hid hs1
  have HS3 := Lib.hid hs3
  have HF2 := Lib.hid hf2
  have HF3 := Lib.hid hf3
  unfold maxLen at hs2
  clear hs1 hs3 hf2 hf3 h2
  go_enter Try.func3, Try.ntmps3
  go_wp2_with fail
  refine (begins_true _).mono ?_
  rintro e w1 ⟨rfl, hb1⟩
  have HT0 := Lib.hid (tr_new hb1)
  clear hb1
  go_wp2
  go_loopg [22] ss.length (fun g i wx => ∃ (k : Nat) (dv : Value) (fu : Int) (fs : List Fl) (d : ByteArray), k + g = ss.length ∧ i = .int .i64 k ∧ Aside (k ≤ 20) ∧ Aside (Tr w w1.heap.size wx dv fu fs k d))
  case atStart => exact ⟨0, _, _, _, _, by omega, rfl, (by omega : 0 ≤ 20), HT0.out⟩
  case round =>
    obtain ⟨k, dv, fu, fs, d, hkg, rfl, H20, HR0⟩ := hrel
    have HR : Hid (Tr w w1.heap.size wr dv fu fs k d) := HR0.out
    clear HT0 HR0
    obtain ⟨da, dc, rfl⟩ := files_slice HR.out.files
    cases gk with
    | zero =>
      obtain rfl : k = ss.length := by omega
      have HE : Hid (Below w.heap.size w wr) := HR.out.td.below
      clear hkg HR
      go_wp2
      go_ret
      exact ⟨rfl, HE.out⟩
    | succ g =>
      have hlk : k < ss.length := by omega
      have hlk2 : (k : Int) < (ss.length : Int) := by omega
      have t4 : (0 : Int) ≤ (k : Int) := by omega
      have HG := Lib.hid hkg
      obtain ⟨b, off, rfl, hblt, hcc⟩ := HS3.out (by omega)
      have hcell : wr.cell? ⟨b, off + k, none⟩ = some (.string ss[k]) := (HR.out.td.below.cell hblt).trans (hcc k hlk)
      have hpz := HS1.out ss[k] (List.getElem_mem hlk)
      clear hkg hcc
      generalize ss[k] = n at *
      by_cases h20 : k = 20
      · subst h20
        have HE : Hid (Below w.heap.size w wr) := HR.out.td.below
        clear HR
        go_wp2
        go_ret
        exact ⟨rfl, HE.out⟩
      · have hk20 : ¬ (k : Int) = 20 := by omega
        have hk20' : ((k : Int) == 20) = false := by simp; omega
        have t3 : IntKind.i64.wrap ((k : Int) + 1) = (k : Int) + 1 := by rw [IntKind.wrap_i64]; omega
        have H19 : Hid (k ≤ 19) := by have := H20.out; show k ≤ 19; omega
        have HNM : Hid (∀ x, Calls Try.prog 5 #[.string n] x fun e w' => e = .returned (.bool (Rg.nameB n)) ∧ x = w') := fun x => Rg.name_any n x hpz
        cases hnb : Rg.nameB n with
        | false =>
          rw [hnb] at HNM
          go_wp2_with fail
          refine (HNM.out _).mono ?_
          rintro e w2 ⟨rfl, rfl⟩
          go_wp2
          go_roundg g
          case measure => omega
          case rel => exact ⟨k + 1, _, _, _, _, by have := HG.out; omega, by go_num, (by have := H19.out; omega : k + 1 ≤ 20), HR.out.up⟩
        | true =>
          rw [hnb] at HNM
          have h19 := H19.out
          obtain ⟨k1, hk1⟩ : ∃ k1 : Nat, k1 = k + 1 := ⟨_, rfl⟩
          have hcv : IntKind.u64.wrap (k : Int) = (k : Int) := by rw [IntKind.wrap_u64]; omega
          have hcv2 : IntKind.u64.wrap ((k : Int) + 1) = (k1 : Int) := by rw [IntKind.wrap_u64]; omega
          have HK1 := Lib.hid hk1
          have HNMD := Lib.hid HR.out.nm
          have nb4 : ¬ n.toList = [] := fun e => by
            have h : n = ⟨#[]⟩ := toList_inj (e.trans (by decide +kernel))
            rw [h] at hnb
            exact absurd hnb (by decide +kernel)
          have nb3 : (n.toList == []) = false := by simpa using nb4
          clear hk1 h19
          go_wp2_with fail
          refine (HNM.out _).mono ?_
          rintro e w2 ⟨rfl, rfl⟩
          go_upto_region 11 with fail
          obtain ⟨HRa, HSBa, HIa⟩ := one_int HR.out 3 30 (.int .u64 (k1 : Nat)) (.string n) (.int .u64 0)
          have HQZ : Hid (w1.heap.size ≠ wr.heap.size + 1) := by have := HR.out.td.hi; show _ ≠ _; omega
          have HZB : Hid (w1.heap.size ≠ wr.heap.size) := by have := HR.out.td.hi; show _ ≠ _; omega
          clear HR
          generalize ((wr.alloc (.cells #[.int .i64 1] 3)).alloc (.cells #[.int .u64 (k1 : Nat), .int .u64 0, .slice (some ⟨wr.heap.size, 0, none⟩) 1 1, .string n] 30)) = x1 at *
          generalize wr.heap.size + 1 = zS at *
          generalize wr.heap.size = zB at *
          have HZS := HQZ
          by_cases hfl : k < fz.length
          · have hfl2 : (k : Int) < (fz.length : Int) := by omega
            obtain ⟨gb, go, rfl, hgl, hgc⟩ := HF3.out (by omega)
            have hfc : x1.cell? ⟨gb, go + k, none⟩ = some (.int .i64 fz[k]) := (HRa.td.below.cell hgl).trans (hgc k hfl)
            have hfr := HF2.out fz[k] (List.getElem_mem hfl)
            have hne1 : ¬ gb = w1.heap.size := by have := HRa.td.lo; omega
            have hne2 : ¬ w1.heap.size = gb := fun e => hne1 e.symm
            have hfc2 : (x1.setCell ⟨w1.heap.size, 2, none⟩ (.int .i64 (-1))).cell? ⟨gb, go + k, none⟩ = some (.int .i64 fz[k]) := (World.cell?_setCell_other _ _ _ _ (by intro e; exact hne2 (congrArg Addr.block e))).trans hfc
            clear hgc
            generalize fz[k] = f at *
            have hflo : -9223372036854775808 ≤ max f (-1) := by omega
            have hfhi : max f (-1) ≤ 9223372036854775807 := by omega
            have HR2 := Lib.hid ((HRa.fuse (-1)).fuse (max f (-1)))
            have HSB2 := Lib.hid ((HSBa.far HZS.out 2 (.int .i64 (-1))).far HZS.out 2 (.int .i64 (max f (-1))))
            have HI2 : Hid (Ints ((x1.setCell ⟨w1.heap.size, 2, none⟩ (.int .i64 (-1))).setCell ⟨w1.heap.size, 2, none⟩ (.int .i64 (max f (-1)))) ((x1.setCell ⟨w1.heap.size, 2, none⟩ (.int .i64 (-1))).setCell ⟨w1.heap.size, 2, none⟩ (.int .i64 (max f (-1)))).heap.size (.slice (some ⟨zB, 0, none⟩) 1 1) [1]) := ints_put (ints_put HIa HZB.out _) HZB.out _
            obtain ⟨d0, d1, d2, p0, p1, p2⟩ := HRa.td.dx
            go_upto_region 14 with fail
            clear HRa HSBa HIa d0 d1 d2 p0 p1 p2 hfc hfc2 hne1 hne2
            generalize (x1.setCell ⟨w1.heap.size, 2, none⟩ (.int .i64 (-1))).setCell ⟨w1.heap.size, 2, none⟩ (.int .i64 (max f (-1))) = x2 at *
            obtain ⟨f3, dn3, fu3, r3, hsv, hr3, hck3, h30, h38⟩ := ts_save HR2.out (by have := H19.out; omega) hnb hflo hfhi k1 HK1.out
            have HSV := Lib.hid hsv
            clear hsv
            obtain ⟨d0, d1, d2, -, -, -⟩ := HR2.out.td.dx
            obtain ⟨s0, s1, s2, s3⟩ := HSB2.out.cells
            go_wp2_with fail
            refine (HSV.out _ _ HR2.out.files HI2.out).mono ?_
            rintro e w3 ⟨v3, rfl, hf3, hh3, hb⟩
            obtain ⟨a3, c3, rfl⟩ := files_slice hf3
            have hb3 := hb.alloc hb.size (.cells #[.slice a3 f3.length c3, .bool dn3, .int .i64 fu3] 27)
            have HT3 := Lib.hid (HR2.out.td.on hb3)
            have HE3 := Lib.hid (And.intro (Dx.made w3 (.slice a3 f3.length c3) dn3 fu3) (hf3.al (.cells #[.slice a3 f3.length c3, .bool dn3, .int .i64 fu3] 27)))
            have HH3 : Hid (Hi (w1.heap.size + 2) (.slice a3 f3.length c3)) := hh3 _ HR2.out.td.hi (hi_none _ _ _)
            have HZ3 : Hid (w1.heap.size + 2 ≤ w3.heap.size) := Nat.le_trans HR2.out.td.hi hb.size
            clear hb hb3 hf3 hh3 d0 d1 d2 s0 s1 s2 s3 HSV HR2 HSB2 HI2
            rcases hr3 with rfl | rfl
            · obtain ⟨rfl, hts⟩ := h30 rfl
              have HHV := HH3
              clear h30 h38 hck3 HH3
              obtain ⟨li, lt, lm, hload⟩ := ts_load hts
              have HLD := Lib.hid hload
              have HTS := Lib.hid hts
              clear hload
              obtain ⟨y0, y1, y2, -, -, -⟩ := HE3.out.1
              go_wp2_with fail
              refine (HLD.out _ _ _ HE3.out.2).mono ?_
              rintro e w5 ⟨⟨v5, rfl, ho5⟩, hb⟩
              obtain ⟨a5, c5, rfl⟩ := ho5.slice
              have hb5 := hb.alloc hb.size (.cells #[.int .u64 (li : Nat), .int .u64 (lt : Nat), .slice a5 lm.length c5, .string n] 30)
              have HT5 := Lib.hid (HT3.out.on hb5)
              have HE5 := Lib.hid (And.intro (HE3.out.1.keep hb5 (World.block_lt_of_cell? _ _ y0)) (HE3.out.2.on hb5 hb5.size))
              have HG5 := Lib.hid (Bx4.made w5 (.int .u64 (li : Nat)) (.int .u64 (lt : Nat)) (.slice a5 lm.length c5) (.string n) 30)
              have HZG : Hid (w1.heap.size + 2 ≤ w5.heap.size) := Nat.le_trans HT3.out.hi hb.size
              clear hb hb5 ho5 y0 y1 y2 HLD
              go_upto_region 18 with fail
              generalize w5.alloc (.cells #[.int .u64 (li : Nat), .int .u64 (lt : Nat), .slice a5 lm.length c5, .string n] 30) = x5 at *
              generalize w5.heap.size = zG at *
              clear hts HT3 HE3
              obtain ⟨g0, g1, g2, g3⟩ := HG5.out.cells
              obtain ⟨q0, q1, q2, hbx⟩ := HT5.out.bx
              obtain ⟨l0, l1, l2, l3⟩ := hbx.cells
              go_wp2_with fail
              refine (HNM.out _).mono ?_
              rintro e w6 ⟨rfl, rfl⟩
              obtain ⟨y0, y1, y2, -, -, -⟩ := HE5.out.1
              obtain ⟨d0, d1, d2, f0, f1, f2⟩ := HT5.out.dx
              obtain ⟨f3, f4, f5, f6⟩ := hbx.fz
              have HND := Lib.hid (Tr.next HT5.out HE5.out.2 HHV.out (fu3) (.int .u64 (li : Nat)) (.int .u64 (lt : Nat)) (.slice a5 lm.length c5) n HTS.out (.inr hnb))
              have zg1 : ¬ w1.heap.size = zG := by have := HZG.out; omega
              have zg2 : ¬ zG = w1.heap.size := fun e => zg1 e.symm
              clear hbx HT5 HE5 HG5 HHV HTS
              go_wp2
              go_region
              all_goals
                go_wp2
                go_roundg g
                case measure => omega
                case rel => exact ⟨k + 1, _, _, _, _, by have := HG.out; omega, by go_num, (by have := H19.out; omega : k + 1 ≤ 20), HND.out⟩
            · have hts := h38 rfl ks
              have hfin := hts.fine
              have HCR := Lib.hid (fun y (hy : Files y y.heap.size (.slice a3 f3.length c3) f3) hi => crash_own (.slice a3 f3.length c3) (.slice ka ks.length kc) dn3 fu3 f3 ks y hy hi hck3)
              generalize crS f3 ks f3.length = f4 at *
              have HTS4 := Lib.hid hts
              have HFI := Lib.hid hfin
              clear h30 h38 hck3 hts hfin HH3
              obtain ⟨y0, y1, y2, z0, z1, z2⟩ := HE3.out.1
              go_wp2_with fail
              refine (HCR.out _ HE3.out.2 (HK.out _ HT3.out.below)).mono ?_
              intro e w4 hd
              obtain ⟨v4, rfl, ho4, hb⟩ := hd
              have hf4 := ho4.files HFI.out.1 HFI.out.2
              have hh4 := ho4.hi
              rw [World.size_alloc] at hh4
              obtain ⟨a4, c4, rfl⟩ := files_slice hf4
              have HHV : Hid (Hi (w1.heap.size + 2) (.slice a4 f4.length c4)) := hh4.le (by have := HZ3.out; omega)
              have hdx4 : Dx w3.heap.size w4 (.slice a3 f3.length c3) dn3 fu3 := HE3.out.1.keep hb (by simp)
              have HE4 : Hid (Dx w3.heap.size (((w4.setCell ⟨w3.heap.size, 0, none⟩ (.slice a4 f4.length c4)).setCell ⟨w3.heap.size, 1, none⟩ (.bool false)).setCell ⟨w3.heap.size, 2, none⟩ (.int .i64 (-1))) (.slice a4 f4.length c4) false (-1) ∧ Files (((w4.setCell ⟨w3.heap.size, 0, none⟩ (.slice a4 f4.length c4)).setCell ⟨w3.heap.size, 1, none⟩ (.bool false)).setCell ⟨w3.heap.size, 2, none⟩ (.int .i64 (-1))) (((w4.setCell ⟨w3.heap.size, 0, none⟩ (.slice a4 f4.length c4)).setCell ⟨w3.heap.size, 1, none⟩ (.bool false)).setCell ⟨w3.heap.size, 2, none⟩ (.int .i64 (-1))).heap.size (.slice a4 f4.length c4) f4) :=
                ⟨hdx4.st, hf4.put3 hh4 (by omega)⟩
              have HT4 : Hid (Td w w1.heap.size (((w4.setCell ⟨w3.heap.size, 0, none⟩ (.slice a4 f4.length c4)).setCell ⟨w3.heap.size, 1, none⟩ (.bool false)).setCell ⟨w3.heap.size, 2, none⟩ (.int .i64 (-1))) (.slice da fs.length dc) (max f (-1)) d) := (((HT3.out.on hb).put HZ3.out 0 _).put HZ3.out 1 _).put HZ3.out 2 _
              have y0' := hdx4.d0
              have y1' := hdx4.d1
              have y2' := hdx4.d2
              have z0' := hdx4.f0
              have z1' := hdx4.f1
              have z2' := hdx4.f2
              clear hb ho4 hf4 hh4 hdx4 y0 y1 y2 z0 z1 z2 HT3 HE3 HCR HFI
              go_upto_region 17 with fail
              clear y0' y1' y2' z0' z1' z2'
              have hts := HTS4.out
              clear HTS4
              obtain ⟨li, lt, lm, hload⟩ := ts_load hts
              have HLD := Lib.hid hload
              have HTS := Lib.hid hts
              clear hload
              obtain ⟨y0, y1, y2, -, -, -⟩ := HE4.out.1
              go_wp2_with fail
              refine (HLD.out _ _ _ HE4.out.2).mono ?_
              rintro e w5 ⟨⟨v5, rfl, ho5⟩, hb⟩
              obtain ⟨a5, c5, rfl⟩ := ho5.slice
              have hb5 := hb.alloc hb.size (.cells #[.int .u64 (li : Nat), .int .u64 (lt : Nat), .slice a5 lm.length c5, .string d] 30)
              have HT5 := Lib.hid (HT4.out.on hb5)
              have HE5 := Lib.hid (And.intro (HE4.out.1.keep hb5 (World.block_lt_of_cell? _ _ y0)) (HE4.out.2.on hb5 hb5.size))
              have HG5 := Lib.hid (Bx4.made w5 (.int .u64 (li : Nat)) (.int .u64 (lt : Nat)) (.slice a5 lm.length c5) (.string d) 30)
              have HZG : Hid (w1.heap.size + 2 ≤ w5.heap.size) := Nat.le_trans HT4.out.hi hb.size
              clear hb hb5 ho5 y0 y1 y2 HLD
              go_upto_region 18 with fail
              generalize w5.alloc (.cells #[.int .u64 (li : Nat), .int .u64 (lt : Nat), .slice a5 lm.length c5, .string d] 30) = x5 at *
              generalize w5.heap.size = zG at *
              clear hts HT4 HE4
              by_cases hdn : d = n
              · subst hdn
                obtain ⟨g0, g1, g2, g3⟩ := HG5.out.cells
                obtain ⟨q0, q1, q2, hbx⟩ := HT5.out.bx
                obtain ⟨l0, l1, l2, l3⟩ := hbx.cells
                go_wp2_with fail
                refine (HNM.out _).mono ?_
                rintro e w6 ⟨rfl, rfl⟩
                obtain ⟨y0, y1, y2, -, -, -⟩ := HE5.out.1
                obtain ⟨d0, d1, d2, f0, f1, f2⟩ := HT5.out.dx
                obtain ⟨f3, f4, f5, f6⟩ := hbx.fz
                have HND := Lib.hid (Tr.next HT5.out HE5.out.2 HHV.out ((-1)) (.int .u64 (li : Nat)) (.int .u64 (lt : Nat)) (.slice a5 lm.length c5) d HTS.out (.inr hnb))
                have zg1 : ¬ w1.heap.size = zG := by have := HZG.out; omega
                have zg2 : ¬ zG = w1.heap.size := fun e => zg1 e.symm
                clear hbx HT5 HE5 HG5 HHV HTS
                go_wp2
                go_region
                all_goals
                  go_wp2
                  go_roundg g
                  case measure => omega
                  case rel => exact ⟨k + 1, _, _, _, _, by have := HG.out; omega, by go_num, (by have := H19.out; omega : k + 1 ≤ 20), HND.out⟩
              · have b1 : (d.toList == n.toList) = false := by simpa using fun e => hdn (toList_inj e)
                have b2 : ¬ d.toList = n.toList := fun e => hdn (toList_inj e)
                by_cases hde : d = ⟨#[]⟩
                · have b3 : (d.toList == []) = true := by rw [hde]; decide +kernel
                  have b4 : d.toList = [] := by rw [hde]; decide +kernel
                  have HDE := Lib.hid hde
                  clear hde
                  obtain ⟨g0, g1, g2, g3⟩ := HG5.out.cells
                  obtain ⟨q0, q1, q2, hbx⟩ := HT5.out.bx
                  obtain ⟨l0, l1, l2, l3⟩ := hbx.cells
                  obtain ⟨y0, y1, y2, -, -, -⟩ := HE5.out.1
                  obtain ⟨d0, d1, d2, f0, f1, f2⟩ := HT5.out.dx
                  obtain ⟨f3, f4, f5, f6⟩ := hbx.fz
                  have HND := Lib.hid (Tr.next HT5.out HE5.out.2 HHV.out ((-1)) (.int .u64 (li : Nat)) (.int .u64 (lt : Nat)) (.slice a5 lm.length c5) d HTS.out (.inl HDE.out))
                  have zg1 : ¬ w1.heap.size = zG := by have := HZG.out; omega
                  have zg2 : ¬ zG = w1.heap.size := fun e => zg1 e.symm
                  clear hbx HT5 HE5 HG5 HHV HTS
                  go_wp2
                  go_region
                  all_goals
                    go_wp2
                    go_roundg g
                    case measure => omega
                    case rel => exact ⟨k + 1, _, _, _, _, by have := HG.out; omega, by go_num, (by have := H19.out; omega : k + 1 ≤ 20), HND.out⟩
                · have hnd : Rg.nameB d = true := by rcases HNMD.out with e | e; exact absurd e hde; exact e
                  have b4 : ¬ d.toList = [] := fun e => hde (toList_inj (e.trans (by decide +kernel)))
                  have b3 : (d.toList == []) = false := by simpa using b4
                  have HNM2 : Hid (∀ x, Calls Try.prog 5 #[.string d] x fun e w' => e = .returned (.bool true) ∧ x = w') := fun x => by have h := Rg.name_any d x (by have h := hnd; unfold Rg.nameB at h; simp only [Bool.and_eq_true, decide_eq_true_eq] at h; have h2 := h.1.2; unfold maxLen; omega); rw [hnd] at h; exact h
                  have HND2 := Lib.hid hnd
                  clear hde hnd
                  obtain ⟨g0, g1, g2, g3⟩ := HG5.out.cells
                  obtain ⟨q0, q1, q2, hbx⟩ := HT5.out.bx
                  obtain ⟨l0, l1, l2, l3⟩ := hbx.cells
                  go_wp2_with fail
                  refine (HNM2.out _).mono ?_
                  rintro e w6 ⟨rfl, rfl⟩
                  obtain ⟨y0, y1, y2, -, -, -⟩ := HE5.out.1
                  obtain ⟨d0, d1, d2, f0, f1, f2⟩ := HT5.out.dx
                  obtain ⟨f3, f4, f5, f6⟩ := hbx.fz
                  have HND := Lib.hid (Tr.next HT5.out HE5.out.2 HHV.out ((-1)) (.int .u64 (li : Nat)) (.int .u64 (lt : Nat)) (.slice a5 lm.length c5) d HTS.out (.inr HND2.out))
                  have zg1 : ¬ w1.heap.size = zG := by have := HZG.out; omega
                  have zg2 : ¬ zG = w1.heap.size := fun e => zg1 e.symm
                  clear hbx HT5 HE5 HG5 HHV HTS
                  go_wp2
                  go_region
                  all_goals
                    go_wp2
                    go_roundg g
                    case measure => omega
                    case rel => exact ⟨k + 1, _, _, _, _, by have := HG.out; omega, by go_num, (by have := H19.out; omega : k + 1 ≤ 20), HND.out⟩
          · have hfl2 : ¬ (k : Int) < (fz.length : Int) := by omega
            have hflo : -9223372036854775808 ≤ (-1 : Int) := by omega
            have hfhi : (-1 : Int) ≤ 9223372036854775807 := by omega
            have HR2 := Lib.hid (HRa.fuse (-1))
            have HSB2 := Lib.hid (HSBa.far HZS.out 2 (.int .i64 (-1)))
            have HI2 : Hid (Ints (x1.setCell ⟨w1.heap.size, 2, none⟩ (.int .i64 (-1))) (x1.setCell ⟨w1.heap.size, 2, none⟩ (.int .i64 (-1))).heap.size (.slice (some ⟨zB, 0, none⟩) 1 1) [1]) := ints_put HIa HZB.out _
            obtain ⟨d0, d1, d2, p0, p1, p2⟩ := HRa.td.dx
            go_upto_region 14 with fail
            clear HRa HSBa HIa d0 d1 d2 p0 p1 p2
            generalize x1.setCell ⟨w1.heap.size, 2, none⟩ (.int .i64 (-1)) = x2 at *
            obtain ⟨f3, dn3, fu3, r3, hsv, hr3, hck3, h30, h38⟩ := ts_save HR2.out (by have := H19.out; omega) hnb hflo hfhi k1 HK1.out
            have HSV := Lib.hid hsv
            clear hsv
            obtain ⟨d0, d1, d2, -, -, -⟩ := HR2.out.td.dx
            obtain ⟨s0, s1, s2, s3⟩ := HSB2.out.cells
            go_wp2_with fail
            refine (HSV.out _ _ HR2.out.files HI2.out).mono ?_
            rintro e w3 ⟨v3, rfl, hf3, hh3, hb⟩
            obtain ⟨a3, c3, rfl⟩ := files_slice hf3
            have hb3 := hb.alloc hb.size (.cells #[.slice a3 f3.length c3, .bool dn3, .int .i64 fu3] 27)
            have HT3 := Lib.hid (HR2.out.td.on hb3)
            have HE3 := Lib.hid (And.intro (Dx.made w3 (.slice a3 f3.length c3) dn3 fu3) (hf3.al (.cells #[.slice a3 f3.length c3, .bool dn3, .int .i64 fu3] 27)))
            have HH3 : Hid (Hi (w1.heap.size + 2) (.slice a3 f3.length c3)) := hh3 _ HR2.out.td.hi (hi_none _ _ _)
            have HZ3 : Hid (w1.heap.size + 2 ≤ w3.heap.size) := Nat.le_trans HR2.out.td.hi hb.size
            clear hb hb3 hf3 hh3 d0 d1 d2 s0 s1 s2 s3 HSV HR2 HSB2 HI2
            rcases hr3 with rfl | rfl
            · obtain ⟨rfl, hts⟩ := h30 rfl
              have HHV := HH3
              clear h30 h38 hck3 HH3
              obtain ⟨li, lt, lm, hload⟩ := ts_load hts
              have HLD := Lib.hid hload
              have HTS := Lib.hid hts
              clear hload
              obtain ⟨y0, y1, y2, -, -, -⟩ := HE3.out.1
              go_wp2_with fail
              refine (HLD.out _ _ _ HE3.out.2).mono ?_
              rintro e w5 ⟨⟨v5, rfl, ho5⟩, hb⟩
              obtain ⟨a5, c5, rfl⟩ := ho5.slice
              have hb5 := hb.alloc hb.size (.cells #[.int .u64 (li : Nat), .int .u64 (lt : Nat), .slice a5 lm.length c5, .string n] 30)
              have HT5 := Lib.hid (HT3.out.on hb5)
              have HE5 := Lib.hid (And.intro (HE3.out.1.keep hb5 (World.block_lt_of_cell? _ _ y0)) (HE3.out.2.on hb5 hb5.size))
              have HG5 := Lib.hid (Bx4.made w5 (.int .u64 (li : Nat)) (.int .u64 (lt : Nat)) (.slice a5 lm.length c5) (.string n) 30)
              have HZG : Hid (w1.heap.size + 2 ≤ w5.heap.size) := Nat.le_trans HT3.out.hi hb.size
              clear hb hb5 ho5 y0 y1 y2 HLD
              go_upto_region 18 with fail
              generalize w5.alloc (.cells #[.int .u64 (li : Nat), .int .u64 (lt : Nat), .slice a5 lm.length c5, .string n] 30) = x5 at *
              generalize w5.heap.size = zG at *
              clear hts HT3 HE3
              obtain ⟨g0, g1, g2, g3⟩ := HG5.out.cells
              obtain ⟨q0, q1, q2, hbx⟩ := HT5.out.bx
              obtain ⟨l0, l1, l2, l3⟩ := hbx.cells
              go_wp2_with fail
              refine (HNM.out _).mono ?_
              rintro e w6 ⟨rfl, rfl⟩
              obtain ⟨y0, y1, y2, -, -, -⟩ := HE5.out.1
              obtain ⟨d0, d1, d2, f0, f1, f2⟩ := HT5.out.dx
              obtain ⟨f3, f4, f5, f6⟩ := hbx.fz
              have HND := Lib.hid (Tr.next HT5.out HE5.out.2 HHV.out (fu3) (.int .u64 (li : Nat)) (.int .u64 (lt : Nat)) (.slice a5 lm.length c5) n HTS.out (.inr hnb))
              have zg1 : ¬ w1.heap.size = zG := by have := HZG.out; omega
              have zg2 : ¬ zG = w1.heap.size := fun e => zg1 e.symm
              clear hbx HT5 HE5 HG5 HHV HTS
              go_wp2
              go_region
              all_goals
                go_wp2
                go_roundg g
                case measure => omega
                case rel => exact ⟨k + 1, _, _, _, _, by have := HG.out; omega, by go_num, (by have := H19.out; omega : k + 1 ≤ 20), HND.out⟩
            · have hts := h38 rfl ks
              have hfin := hts.fine
              have HCR := Lib.hid (fun y (hy : Files y y.heap.size (.slice a3 f3.length c3) f3) hi => crash_own (.slice a3 f3.length c3) (.slice ka ks.length kc) dn3 fu3 f3 ks y hy hi hck3)
              generalize crS f3 ks f3.length = f4 at *
              have HTS4 := Lib.hid hts
              have HFI := Lib.hid hfin
              clear h30 h38 hck3 hts hfin HH3
              obtain ⟨y0, y1, y2, z0, z1, z2⟩ := HE3.out.1
              go_wp2_with fail
              refine (HCR.out _ HE3.out.2 (HK.out _ HT3.out.below)).mono ?_
              intro e w4 hd
              obtain ⟨v4, rfl, ho4, hb⟩ := hd
              have hf4 := ho4.files HFI.out.1 HFI.out.2
              have hh4 := ho4.hi
              rw [World.size_alloc] at hh4
              obtain ⟨a4, c4, rfl⟩ := files_slice hf4
              have HHV : Hid (Hi (w1.heap.size + 2) (.slice a4 f4.length c4)) := hh4.le (by have := HZ3.out; omega)
              have hdx4 : Dx w3.heap.size w4 (.slice a3 f3.length c3) dn3 fu3 := HE3.out.1.keep hb (by simp)
              have HE4 : Hid (Dx w3.heap.size (((w4.setCell ⟨w3.heap.size, 0, none⟩ (.slice a4 f4.length c4)).setCell ⟨w3.heap.size, 1, none⟩ (.bool false)).setCell ⟨w3.heap.size, 2, none⟩ (.int .i64 (-1))) (.slice a4 f4.length c4) false (-1) ∧ Files (((w4.setCell ⟨w3.heap.size, 0, none⟩ (.slice a4 f4.length c4)).setCell ⟨w3.heap.size, 1, none⟩ (.bool false)).setCell ⟨w3.heap.size, 2, none⟩ (.int .i64 (-1))) (((w4.setCell ⟨w3.heap.size, 0, none⟩ (.slice a4 f4.length c4)).setCell ⟨w3.heap.size, 1, none⟩ (.bool false)).setCell ⟨w3.heap.size, 2, none⟩ (.int .i64 (-1))).heap.size (.slice a4 f4.length c4) f4) :=
                ⟨hdx4.st, hf4.put3 hh4 (by omega)⟩
              have HT4 : Hid (Td w w1.heap.size (((w4.setCell ⟨w3.heap.size, 0, none⟩ (.slice a4 f4.length c4)).setCell ⟨w3.heap.size, 1, none⟩ (.bool false)).setCell ⟨w3.heap.size, 2, none⟩ (.int .i64 (-1))) (.slice da fs.length dc) (-1) d) := (((HT3.out.on hb).put HZ3.out 0 _).put HZ3.out 1 _).put HZ3.out 2 _
              have y0' := hdx4.d0
              have y1' := hdx4.d1
              have y2' := hdx4.d2
              have z0' := hdx4.f0
              have z1' := hdx4.f1
              have z2' := hdx4.f2
              clear hb ho4 hf4 hh4 hdx4 y0 y1 y2 z0 z1 z2 HT3 HE3 HCR HFI
              go_upto_region 17 with fail
              clear y0' y1' y2' z0' z1' z2'
              have hts := HTS4.out
              clear HTS4
              obtain ⟨li, lt, lm, hload⟩ := ts_load hts
              have HLD := Lib.hid hload
              have HTS := Lib.hid hts
              clear hload
              obtain ⟨y0, y1, y2, -, -, -⟩ := HE4.out.1
              go_wp2_with fail
              refine (HLD.out _ _ _ HE4.out.2).mono ?_
              rintro e w5 ⟨⟨v5, rfl, ho5⟩, hb⟩
              obtain ⟨a5, c5, rfl⟩ := ho5.slice
              have hb5 := hb.alloc hb.size (.cells #[.int .u64 (li : Nat), .int .u64 (lt : Nat), .slice a5 lm.length c5, .string d] 30)
              have HT5 := Lib.hid (HT4.out.on hb5)
              have HE5 := Lib.hid (And.intro (HE4.out.1.keep hb5 (World.block_lt_of_cell? _ _ y0)) (HE4.out.2.on hb5 hb5.size))
              have HG5 := Lib.hid (Bx4.made w5 (.int .u64 (li : Nat)) (.int .u64 (lt : Nat)) (.slice a5 lm.length c5) (.string d) 30)
              have HZG : Hid (w1.heap.size + 2 ≤ w5.heap.size) := Nat.le_trans HT4.out.hi hb.size
              clear hb hb5 ho5 y0 y1 y2 HLD
              go_upto_region 18 with fail
              generalize w5.alloc (.cells #[.int .u64 (li : Nat), .int .u64 (lt : Nat), .slice a5 lm.length c5, .string d] 30) = x5 at *
              generalize w5.heap.size = zG at *
              clear hts HT4 HE4
              by_cases hdn : d = n
              · subst hdn
                obtain ⟨g0, g1, g2, g3⟩ := HG5.out.cells
                obtain ⟨q0, q1, q2, hbx⟩ := HT5.out.bx
                obtain ⟨l0, l1, l2, l3⟩ := hbx.cells
                go_wp2_with fail
                refine (HNM.out _).mono ?_
                rintro e w6 ⟨rfl, rfl⟩
                obtain ⟨y0, y1, y2, -, -, -⟩ := HE5.out.1
                obtain ⟨d0, d1, d2, f0, f1, f2⟩ := HT5.out.dx
                obtain ⟨f3, f4, f5, f6⟩ := hbx.fz
                have HND := Lib.hid (Tr.next HT5.out HE5.out.2 HHV.out ((-1)) (.int .u64 (li : Nat)) (.int .u64 (lt : Nat)) (.slice a5 lm.length c5) d HTS.out (.inr hnb))
                have zg1 : ¬ w1.heap.size = zG := by have := HZG.out; omega
                have zg2 : ¬ zG = w1.heap.size := fun e => zg1 e.symm
                clear hbx HT5 HE5 HG5 HHV HTS
                go_wp2
                go_region
                all_goals
                  go_wp2
                  go_roundg g
                  case measure => omega
                  case rel => exact ⟨k + 1, _, _, _, _, by have := HG.out; omega, by go_num, (by have := H19.out; omega : k + 1 ≤ 20), HND.out⟩
              · have b1 : (d.toList == n.toList) = false := by simpa using fun e => hdn (toList_inj e)
                have b2 : ¬ d.toList = n.toList := fun e => hdn (toList_inj e)
                by_cases hde : d = ⟨#[]⟩
                · have b3 : (d.toList == []) = true := by rw [hde]; decide +kernel
                  have b4 : d.toList = [] := by rw [hde]; decide +kernel
                  have HDE := Lib.hid hde
                  clear hde
                  obtain ⟨g0, g1, g2, g3⟩ := HG5.out.cells
                  obtain ⟨q0, q1, q2, hbx⟩ := HT5.out.bx
                  obtain ⟨l0, l1, l2, l3⟩ := hbx.cells
                  obtain ⟨y0, y1, y2, -, -, -⟩ := HE5.out.1
                  obtain ⟨d0, d1, d2, f0, f1, f2⟩ := HT5.out.dx
                  obtain ⟨f3, f4, f5, f6⟩ := hbx.fz
                  have HND := Lib.hid (Tr.next HT5.out HE5.out.2 HHV.out ((-1)) (.int .u64 (li : Nat)) (.int .u64 (lt : Nat)) (.slice a5 lm.length c5) d HTS.out (.inl HDE.out))
                  have zg1 : ¬ w1.heap.size = zG := by have := HZG.out; omega
                  have zg2 : ¬ zG = w1.heap.size := fun e => zg1 e.symm
                  clear hbx HT5 HE5 HG5 HHV HTS
                  go_wp2
                  go_region
                  all_goals
                    go_wp2
                    go_roundg g
                    case measure => omega
                    case rel => exact ⟨k + 1, _, _, _, _, by have := HG.out; omega, by go_num, (by have := H19.out; omega : k + 1 ≤ 20), HND.out⟩
                · have hnd : Rg.nameB d = true := by rcases HNMD.out with e | e; exact absurd e hde; exact e
                  have b4 : ¬ d.toList = [] := fun e => hde (toList_inj (e.trans (by decide +kernel)))
                  have b3 : (d.toList == []) = false := by simpa using b4
                  have HNM2 : Hid (∀ x, Calls Try.prog 5 #[.string d] x fun e w' => e = .returned (.bool true) ∧ x = w') := fun x => by have h := Rg.name_any d x (by have h := hnd; unfold Rg.nameB at h; simp only [Bool.and_eq_true, decide_eq_true_eq] at h; have h2 := h.1.2; unfold maxLen; omega); rw [hnd] at h; exact h
                  have HND2 := Lib.hid hnd
                  clear hde hnd
                  obtain ⟨g0, g1, g2, g3⟩ := HG5.out.cells
                  obtain ⟨q0, q1, q2, hbx⟩ := HT5.out.bx
                  obtain ⟨l0, l1, l2, l3⟩ := hbx.cells
                  go_wp2_with fail
                  refine (HNM2.out _).mono ?_
                  rintro e w6 ⟨rfl, rfl⟩
                  obtain ⟨y0, y1, y2, -, -, -⟩ := HE5.out.1
                  obtain ⟨d0, d1, d2, f0, f1, f2⟩ := HT5.out.dx
                  obtain ⟨f3, f4, f5, f6⟩ := hbx.fz
                  have HND := Lib.hid (Tr.next HT5.out HE5.out.2 HHV.out ((-1)) (.int .u64 (li : Nat)) (.int .u64 (lt : Nat)) (.slice a5 lm.length c5) d HTS.out (.inr HND2.out))
                  have zg1 : ¬ w1.heap.size = zG := by have := HZG.out; omega
                  have zg2 : ¬ zG = w1.heap.size := fun e => zg1 e.symm
                  clear hbx HT5 HE5 HG5 HHV HTS
                  go_wp2
                  go_region
                  all_goals
                    go_wp2
                    go_roundg g
                    case measure => omega
                    case rel => exact ⟨k + 1, _, _, _, _, by have := HG.out; omega, by go_num, (by have := H19.out; omega : k + 1 ≤ 20), HND.out⟩
end Dk
end Go.Proofs.Ytjgdmdgiicpemaa
