/-
  Merged: MsgTk, MsgTk2, MsgTk3, MsgTk4, MsgDec.
-/
import Derived.Test.YtlkdjnnlbccjdaaMgK
import Derived.Test.YtlkdjnnlbccjdaaLgA
import Derived.Deep.RegionLaw
/-
  A MESSAGE's PARTS are taken: a flag, an entry, a snapshot.
-/
namespace Go.Proofs.Ytlkdjnnlbccjdaa
open Go.RowKit
namespace Hd
open PM
set_option linter.unusedVariables false
def yesB (l : List UInt8) : Bool := decide (upV 1 l = 1)
set_option maxHeartbeats 1000000 in
theorem take_yes (g : Nat) (l : List UInt8) (b : Bool) (w : World) (h : Tk w g l b) (hl : l.length ≤ maxLen) :
    Calls Try.prog 55 #[.pointer (some ⟨g, 0, none⟩)] w fun e w' => e = .returned (.bool (yesB l)) ∧ Tk w' g (upR 1 l) (upB 1 l) ∧ Only g w w' := by
  have hu := upto_part g l b 1 w h hl
  rw [show ((1 : Nat) : Int) = 1 from rfl] at hu
  have HU := Lib.hid hu
  have HY : Hid (yesB l = decide (upV 1 l = 1)) := rfl
  clear hu h hl
  generalize yesB l = y at *
  generalize upV 1 l = n at *
  by_cases h1 : n = 1
  · subst h1
    have HR : Hid (y = true) := HY.out.trans rfl
    rw [show ((1 : Nat) : Int) = 1 from rfl] at HU
    go_enter Try.func55, Try.ntmps55
    go_wp2_with (go_at_call 53; go_loud ((with_reducible refine HU.out.mono ?_); rintro e w1 ⟨rfl, ht, ho⟩; have HT := Lib.hid ht; have HO := Lib.hid ho; clear ht ho))
    go_wp2
    go_ret
    exact ⟨by rw [HR.out]; rfl, HT.out, HO.out⟩
  · have h1' : ¬ (n : Int) = 1 := by omega
    have h1'' : ((n : Int) == 1) = false := by simp; omega
    have HR : Hid (y = false) := HY.out.trans (decide_eq_false h1)
    clear h1
    go_enter Try.func55, Try.ntmps55
    go_wp2_with (go_at_call 53; go_loud ((with_reducible refine HU.out.mono ?_); rintro e w1 ⟨rfl, ht, ho⟩; have HT := Lib.hid ht; have HO := Lib.hid ho; clear ht ho))
    go_wp2
    go_ret
    exact ⟨by rw [HR.out]; rfl, HT.out, HO.out⟩
/-- What taking an entry comes to. -/
def EnIs (w : World) (l : List UInt8) (e : Ending) (w' : World) : Prop := ∃ v', e = .returned (Lo.enV (wdV (ttT l)) v') ∧ OwnI w' w.heap.size v' (wdM (ttT l))
theorem ttT_length (l : List UInt8) : (ttT l).length ≤ l.length := by
  unfold ttT
  split
  · rw [List.length_take]
    have := tnR_length l
    omega
  · simp
set_option maxRecDepth 100000 in
set_option maxHeartbeats 2000000 in
theorem take_entry (g : Nat) (l : List UInt8) (b : Bool) (w : World) (h : Tk w g l b) (hl : l.length ≤ maxLen) :
    Calls Try.prog 58 #[.pointer (some ⟨g, 0, none⟩)] w fun e w' => EnIs w l e w' ∧ Tk w' g (ttR l) (decide (ttW l ≠ 0)) ∧ Only g w w' := by
  have hb0 : Below w.heap.size w (w.alloc (.cells #[.int .u64 0, .int .u64 0, .int .u8 0, .string ⟨#[]⟩, .slice none 0 0] 73)) := (Below.refl _ _).alloc (Nat.le_refl _) _
  have HT := Lib.hid (text_part g l b _ (h.below hb0 h.lt) hl)
  have HD := Lib.hid (fun z => wal_decode (ttT l) z (Nat.le_trans (ttT_length l) hl))
  have HR0 := Lib.hid (Bxn.made w zE 73)
  have hglt := h.lt
  have HO0 := Lib.hid (Only.of_below (g := g) hb0)
  have HEI : Hid (∀ w' v', OwnI w' w.heap.size v' (wdM (ttT l)) → EnIs w l (.returned (Lo.enV (wdV (ttT l)) v')) w') := fun w' v' ho => ⟨v', rfl, ho⟩
  have hML := (wdM_ok (ttT l)).1
  unfold Lo.enV at HEI
  clear h hl hb0
  go_enter Try.func58, Try.ntmps58
  go_wp2_with fail
  refine HT.out.mono ?_
  rintro e w1 ⟨rfl, ht, ho⟩
  have HT1 := Lib.hid ht
  have HR1 := Lib.hid (HR0.out.only ho (by omega))
  have HO1 := Lib.hid (HO0.out.trans ho)
  clear ht ho
  go_wp2_with fail
  refine (HD.out w1).mono ?_
  rintro e w2 ⟨⟨v2, rfl, hown⟩, hb⟩
  obtain ⟨a2, k2, rfl⟩ := hown.slice
  have hw1 := HR1.out.lt
  have HB3 : Hid (Below w1.heap.size w1 (w2.alloc (.cells #[.int .u64 ((wdV (ttT l)).i : Nat), .int .u64 ((wdV (ttT l)).t : Nat), .int .u8 ((wdV (ttT l)).k : Nat), .string (wdV (ttT l)).d, .slice a2 (wdM (ttT l)).length k2] 73))) := hb.alloc hb.size _
  have HR3 := Lib.hid (HR1.out.below HB3.out)
  have HT3 := Lib.hid (HT1.out.below HB3.out HT1.out.lt)
  have HO3 := Lib.hid (HO1.out.trans (Only.of_below HB3.out))
  have HW3 := Lib.hid ((hown.al (.cells #[.int .u64 ((wdV (ttT l)).i : Nat), .int .u64 ((wdV (ttT l)).t : Nat), .int .u8 ((wdV (ttT l)).k : Nat), .string (wdV (ttT l)).d, .slice a2 (wdM (ttT l)).length k2] 73)).less (b2 := w.heap.size + 1) (by omega))
  unfold Lo.enV
  clear hown
  generalize (wdV (ttT l)).i = ei at *
  generalize (wdV (ttT l)).t = et at *
  generalize (wdV (ttT l)).k = ek at *
  generalize (wdV (ttT l)).d = ed at *
  generalize wdM (ttT l) = ms at *
  have n1 : ¬ w.heap.size = w2.heap.size := by have := hb.size; omega
  have n2 : ¬ w2.heap.size = w.heap.size := by have := hb.size; omega
  clear hb
  obtain ⟨r0, r1, r2, r3, r4⟩ : (w2.alloc (.cells #[.int .u64 (ei : Nat), .int .u64 (et : Nat), .int .u8 (ek : Nat), .string ed, .slice a2 ms.length k2] 73)).cell? ⟨w.heap.size, 0, none⟩ = some (.int .u64 0) ∧ (w2.alloc (.cells #[.int .u64 (ei : Nat), .int .u64 (et : Nat), .int .u8 (ek : Nat), .string ed, .slice a2 ms.length k2] 73)).cell? ⟨w.heap.size, 1, none⟩ = some (.int .u64 0) ∧ (w2.alloc (.cells #[.int .u64 (ei : Nat), .int .u64 (et : Nat), .int .u8 (ek : Nat), .string ed, .slice a2 ms.length k2] 73)).cell? ⟨w.heap.size, 2, none⟩ = some (.int .u8 0) ∧ (w2.alloc (.cells #[.int .u64 (ei : Nat), .int .u64 (et : Nat), .int .u8 (ek : Nat), .string ed, .slice a2 ms.length k2] 73)).cell? ⟨w.heap.size, 3, none⟩ = some (.string ⟨#[]⟩) ∧ (w2.alloc (.cells #[.int .u64 (ei : Nat), .int .u64 (et : Nat), .int .u8 (ek : Nat), .string ed, .slice a2 ms.length k2] 73)).cell? ⟨w.heap.size, 4, none⟩ = some (.slice none 0 0) := ⟨HR3.out.cell 0, HR3.out.cell 1, HR3.out.cell 2, HR3.out.cell 3, HR3.out.cell 4⟩
  have f0 := HR3.out.fz 0
  have f1 := HR3.out.fz 1
  have f2 := HR3.out.fz 2
  have f3 := HR3.out.fz 3
  have f4 := HR3.out.fz 4
  go_wp2
  refine bodyPost_bx rfl w.heap.size [.int .u64 (ei : Nat), .int .u64 (et : Nat), .int .u8 (ek : Nat), .string ed, .slice a2 ms.length k2] _ rfl rfl ?_ Try.underlying73 rfl (by kernel_rfl) ?_
  case refine_1 => exact ((((HR3.out.set 0 _).set 1 _).set 2 _).set 3 _).set 4 _
  case refine_2 => exact ⟨HEI.out _ _ ((((((HW3.out.put (p := w.heap.size) (by omega) 0 _).put (p := w.heap.size) (by omega) 1 _).put (p := w.heap.size) (by omega) 2 _).put (p := w.heap.size) (by omega) 3 _).put (p := w.heap.size) (by omega) 4 _).less (by omega)), ((((HT3.out.far (by omega) 0 _).far (by omega) 1 _).far (by omega) 2 _).far (by omega) 3 _).far (by omega) 4 _, ((((HO3.out.put2 (Nat.le_refl _) 0 _).put2 (Nat.le_refl _) 1 _).put2 (Nat.le_refl _) 2 _).put2 (Nat.le_refl _) 3 _).put2 (Nat.le_refl _) 4 _⟩
end Hd
end Go.Proofs.Ytlkdjnnlbccjdaa

/-
  A SNAPSHOT is taken; an entry is put behind a row of the call's own.
-/
namespace Go.Proofs.Ytlkdjnnlbccjdaa
open Go.RowKit
namespace Hd
open PM
set_option linter.unusedVariables false
def zS : List Value := [.int .u64 0, .int .u64 0, .slice none 0 0, .string ⟨#[]⟩]
/-- What taking a snapshot comes to. -/
def SpIs (w : World) (l : List UInt8) (e : Ending) (w' : World) : Prop := ∃ v', e = .returned (.agg #[.int .u64 (sdI (ttT l) : Nat), .int .u64 (sdT (ttT l) : Nat), v', .string (bs (sdD (ttT l)))]) ∧ OwnI w' w.heap.size v' (sdM (ttT l))
set_option maxRecDepth 100000 in
set_option maxHeartbeats 2000000 in
theorem take_snap (g : Nat) (l : List UInt8) (b : Bool) (w : World) (h : Tk w g l b) (hl : l.length ≤ maxLen) :
    Calls Try.prog 59 #[.pointer (some ⟨g, 0, none⟩)] w fun e w' => SpIs w l e w' ∧ Tk w' g (ttR l) (decide (ttW l ≠ 0)) ∧ Only g w w' := by
  have hb0 : Below w.heap.size w (w.alloc (.cells #[.int .u64 0, .int .u64 0, .slice none 0 0, .string ⟨#[]⟩] 27)) := (Below.refl _ _).alloc (Nat.le_refl _) _
  have HT := Lib.hid (text_part g l b _ (h.below hb0 h.lt) hl)
  have HD := Lib.hid (fun z => snap_decode (ttT l) z (Nat.le_trans (ttT_length l) hl))
  have HR0 := Lib.hid (Bxn.made w zS 27)
  have hglt := h.lt
  have HO0 := Lib.hid (Only.of_below (g := g) hb0)
  have HEI : Hid (∀ w' v', OwnI w' w.heap.size v' (sdM (ttT l)) → SpIs w l (.returned (.agg #[.int .u64 (sdI (ttT l) : Nat), .int .u64 (sdT (ttT l) : Nat), v', .string (bs (sdD (ttT l)))])) w') := fun w' v' ho => ⟨v', rfl, ho⟩
  have hML := (sdM_ok (ttT l)).1
  clear h hl hb0
  go_enter Try.func59, Try.ntmps59
  go_wp2_with fail
  refine HT.out.mono ?_
  rintro e w1 ⟨rfl, ht, ho⟩
  have HT1 := Lib.hid ht
  have HR1 := Lib.hid (HR0.out.only ho (by omega))
  have HO1 := Lib.hid (HO0.out.trans ho)
  clear ht ho
  go_wp2_with fail
  refine (HD.out w1).mono ?_
  rintro e w2 ⟨⟨v2, rfl, hown⟩, hb⟩
  obtain ⟨a2, k2, rfl⟩ := hown.slice
  have hw1 := HR1.out.lt
  have HB3 : Hid (Below w1.heap.size w1 (w2.alloc (.cells #[.int .u64 (sdI (ttT l) : Nat), .int .u64 (sdT (ttT l) : Nat), .slice a2 (sdM (ttT l)).length k2, .string (bs (sdD (ttT l)))] 27))) := hb.alloc hb.size _
  have HR3 := Lib.hid (HR1.out.below HB3.out)
  have HT3 := Lib.hid (HT1.out.below HB3.out HT1.out.lt)
  have HO3 := Lib.hid (HO1.out.trans (Only.of_below HB3.out))
  have HW3 := Lib.hid ((hown.al (.cells #[.int .u64 (sdI (ttT l) : Nat), .int .u64 (sdT (ttT l) : Nat), .slice a2 (sdM (ttT l)).length k2, .string (bs (sdD (ttT l)))] 27)).less (b2 := w.heap.size + 1) (by omega))
  clear hown
  generalize sdI (ttT l) = ei at *
  generalize sdT (ttT l) = et at *
  generalize bs (sdD (ttT l)) = ed at *
  generalize sdM (ttT l) = ms at *
  have n1 : ¬ w.heap.size = w2.heap.size := by have := hb.size; omega
  have n2 : ¬ w2.heap.size = w.heap.size := by have := hb.size; omega
  clear hb
  have r0 : (w2.alloc (.cells #[.int .u64 (ei : Nat), .int .u64 (et : Nat), .slice a2 ms.length k2, .string ed] 27)).cell? ⟨w.heap.size, 0, none⟩ = some (.int .u64 0) := HR3.out.cell 0
  have f0 := HR3.out.fz 0
  have r1 : (w2.alloc (.cells #[.int .u64 (ei : Nat), .int .u64 (et : Nat), .slice a2 ms.length k2, .string ed] 27)).cell? ⟨w.heap.size, 1, none⟩ = some (.int .u64 0) := HR3.out.cell 1
  have f1 := HR3.out.fz 1
  have r2 : (w2.alloc (.cells #[.int .u64 (ei : Nat), .int .u64 (et : Nat), .slice a2 ms.length k2, .string ed] 27)).cell? ⟨w.heap.size, 2, none⟩ = some (.slice none 0 0) := HR3.out.cell 2
  have f2 := HR3.out.fz 2
  have r3 : (w2.alloc (.cells #[.int .u64 (ei : Nat), .int .u64 (et : Nat), .slice a2 ms.length k2, .string ed] 27)).cell? ⟨w.heap.size, 3, none⟩ = some (.string ⟨#[]⟩) := HR3.out.cell 3
  have f3 := HR3.out.fz 3
  go_wp2
  refine bodyPost_bx rfl w.heap.size [.int .u64 (ei : Nat), .int .u64 (et : Nat), .slice a2 ms.length k2, .string ed] _ rfl rfl ?_ Try.underlying27 rfl (by kernel_rfl) ?_
  case refine_1 => exact (((HR3.out.set 0 _).set 1 _).set 2 _).set 3 _
  case refine_2 => exact ⟨HEI.out _ _ (((((HW3.out.put (p := w.heap.size) (by omega) 0 _).put (p := w.heap.size) (by omega) 1 _).put (p := w.heap.size) (by omega) 2 _).put (p := w.heap.size) (by omega) 3 _).less (by omega)), (((HT3.out.far (by omega) 0 _).far (by omega) 1 _).far (by omega) 2 _).far (by omega) 3 _, (((HO3.out.put2 (Nat.le_refl _) 0 _).put2 (Nat.le_refl _) 1 _).put2 (Nat.le_refl _) 2 _).put2 (Nat.le_refl _) 3 _⟩
/-- A row's numbers, as the log's texts say it, out of one's own row of small ones. -/
theorem own_intsR {w : World} {base : Nat} {v : Value} {ms : List Nat} (h : OwnI w base v ms) (h7 : ∀ m ∈ ms, m ≤ 7) (hl : ms.length ≤ 7) : Lo.IntsR w base w.heap.size v (ms.map fun (k : Nat) => (k : Int)) := by
  obtain ⟨a, c, h1, h2, h3, h4⟩ := h.ints (by omega) (fun k hk => by have := h7 k hk; omega)
  refine ⟨a, c, h1, by rw [List.length_map]; omega, h3, fun hp => ?_⟩
  obtain ⟨b, off, he, hb, hc⟩ := h4 hp
  refine ⟨b, off, he, ?_, hb, hc⟩
  rcases h.2 with ⟨_, h0⟩ | ⟨g, cap, cur, e2, hbg, _⟩
  · rw [List.length_map] at hp; omega
  · rw [h1, he] at e2
    simp only [Value.slice.injEq, Option.some.injEq, Addr.mk.injEq] at e2
    obtain ⟨⟨rfl, -⟩, -⟩ := e2
    exact hbg
theorem wp_append_at {o : Oper} {a : Act} {w : World} {K : Act → World → Prop} {Q : Exit → Act → World → Prop} (s x : Operand) (t : TypeId)
    (ho : o.op = .call { callee := .builtin .append, args := #[s, x], argTypes := #[t, t] })
    (base : Nat) (e : TypeId) (i : TypeInfo) (z : Value) (size bytes : Nat) (ht : Try.prog.underlying t = some (.slice e)) (hi : Try.prog.info? e = some i) (hz : i.zero = some z)
    (hsize : i.size = size) (hby : i.bytes = bytes) (hzs : z.cells.size = size) (hsz : 0 < size)
    (v : Value) (n : Nat) (xs : List Value) (hs : a.eval s = v) (hown : w.ownsRow base e size v n xs)
    (ad : Addr) (m c : Nat) (news : List Value) (hx : a.eval x = .slice (some ad) m c) (hl : news.length = m * size) (hnews : ∀ j u, news[j]? = some u → w.cell? (ad.add j) = some u) (h1 : ∀ u ∈ news, u.oneCell' = true)
    (h63 : n + m ≤ maxLen) (hbytes : (n + m) * bytes ≤ 140737488355328) (hbase : base ≤ w.heap.size)
    (h : ∀ v' w', w'.ownsRow base e size v' (n + m) (xs ++ news) → w.grownBy w' v.ownBlock → (v'.ownBlock = v.ownBlock ∨ v'.ownBlock = some w.heap.size) → K (a.put o.dst v') w') : o.wp Try.prog a w K Q := by
  obtain ⟨v', w', hr, h2, h3, h4, h5⟩ := run_append_own_at (P := Try.prog) w base t o.type e i z size bytes ht hi hz hsize hby hzs hsz v n xs hown ad m c news hl hnews h1 h63 hbytes hbase
  unfold Oper.wp execOp
  simp only [ho, resolve, invoke, builtin, Sem.run_bind, Sem.run_pure, Result.andThen_ok, List.map_toArray, List.map_cons, List.map_nil, hs, hx, hr]
  exact h v' w' h2 h3 h5
/-- An append of one entry onto a row of one's own, within a region. -/
theorem step_ent {ops : Array Oper} {o : Oper} {a : Act} {w : World} {K : Act → World → Prop} {Q : Exit → Act → World → Prop} {E : Prop} (hgd : o.guard = none) (s x : Operand)
    (ho : o.op = .call { callee := .builtin .append, args := #[s, x], argTypes := #[24, 24] })
    (base : Nat) (l : List Lo.En) (en : Lo.En) (u : Value) (v : Value) (hs : a.eval s = v) (h0 : Lo.Gr w base v l) (B : Nat) (A : Nat) (hI : Lo.IntsR w A B u en.ks) (hbA : base ≤ A) (hB : B ≤ w.heap.size) (hA : ∀ g, v.ownBlock = some g → g < A ∨ B ≤ g) (h1 : Lo.Lt64 en.i) (h2 : Lo.Lt64 en.t) (hone : u.oneCell' = true)
    (ad : Addr) (c : Nat) (hx : a.eval x = .slice (some ad) 1 c) (hc : ∀ j y, (Lo.encE en u)[j]? = some y → w.cell? (ad.add j) = some y) (hl : l.length ≤ 1000) (hbase : base ≤ w.heap.size)
    (h : ∀ v' w', Lo.Gr w' base v' (l ++ [en]) → w.grownBy w' v.ownBlock → K (a.put o.dst v') w') :
    if Region.wanted o (yielded ops a.tmps) = true then Oper.wp Try.prog o a w K Q else E := by
  have hw : Region.wanted o (yielded ops a.tmps) = true := by simp [Region.wanted, hgd]
  rw [if_pos hw]
  obtain ⟨i0, hi, hq0, hq1, hq2⟩ := info_parts Lo.info_entry
  obtain ⟨xs, hown, happ⟩ := h0.app1 en u h1 h2 hI hbA hB hA
  refine wp_append_at s x _ ho base 73 i0 _ 5 64 Try.underlying24 hi hq0 hq1 hq2 rfl (by omega) v l.length xs hs hown ad 1 c (Lo.encE en u) hx rfl hc (Lo.enc_one en u hone) (by simp only [maxLen]; omega) (by omega) hbase ?_
  intro v' w' hown' hg hat
  exact h v' w' (happ v' w' hown' hg hat) hg
end Hd
end Go.Proofs.Ytlkdjnnlbccjdaa

/-
  THE ENTRIES OF A MESSAGE are taken: the closure (*msg.taker).msg$1.
-/
namespace Go.Proofs.Ytlkdjnnlbccjdaa
open Go.RowKit
namespace Hd
open PM
set_option linter.unusedVariables false
theorem gr_only {w w' : World} {base g : Nat} {v : Value} {l : List Lo.En} (h : Lo.Gr w base v l) (ho : Only g w w') (hg : g < base) : Lo.Gr w' base v l := by
  obtain ⟨ps, k1, k2, k3⟩ := h
  refine ⟨ps, k1, World.ownsRow.kept (row := some g) k2 ho (Or.inr (fun e => by have := (World.ownsRow.lt k2 g e).1; omega)), fun p hp => ?_⟩
  obtain ⟨i1, i2, A, B, i3, i0, i4, i5⟩ := k3 p hp
  exact ⟨i1, i2, A, B, i3.grown ho (fun q hq => by injection hq with hq; omega), i0, Nat.le_trans i4 ho.size, i5⟩
theorem gr_far {w : World} {base : Nat} {v : Value} {l : List Lo.En} (h : Lo.Gr w base v l) {g : Nat} (hg : g < base) : v.ownBlock ≠ some g := fun e => by
  have := (h.lt g e).1
  omega
/-- Where the taking of entries stands: the row in the sixth cell of the message's box P, the taker's address in the box Q. -/
structure Te (w0 : World) (P Q g base : Nat) (l : List UInt8) (b : Bool) (es : List Lo.En) (cs : List Value) (v : Value) (x : World) : Prop where
  tk : Tk x g l b
  own : Lo.Gr x base v es
  bx : Bxn x P (cs.set 6 v)
  cq : x.cell? ⟨Q, 0, none⟩ = some (.pointer (some ⟨g, 0, none⟩))
  sz : base ≤ x.heap.size
  fr : Two base g P w0 x
theorem set6 {cs : List Value} (h : cs.length = 11) (v : Value) : (cs.set 6 v)[6]? = some v := by
  rw [List.getElem?_set_self (by omega)]
theorem te_end {w0 x w7 w8 : World} {P Q g base : Nat} {l l2 : List UInt8} {b b2 : Bool} {es : List Lo.En} {cs : List Value} {e : Lo.En} {v v8 : Value} {o : Obj} (h : Te w0 P Q g base l b es cs v x)
    (hpb : P < base) (hqb : Q < base) (hgb : g < base) (hpg : P ≠ g) (hqg : Q ≠ g) (hqp : Q ≠ P) (hT7 : Tk w7 g l2 b2) (hO7 : Only g x.drew w7) (hown8 : Lo.Gr w8 base v8 (es ++ [e]))
    (hg8 : (w7.alloc o).grownBy w8 v.ownBlock) :
    Te w0 P Q g base l2 b2 (es ++ [e]) cs v8 (w8.setCell ⟨P, 6, none⟩ v8) := by
  have hsz := h.sz
  have s7 : x.heap.size ≤ w7.heap.size := hO7.size
  have s8 : w7.heap.size + 1 ≤ w8.heap.size := by have := hg8.size; simpa using this
  have hrow : ∀ i, i < base → v.ownBlock ≠ some i := fun i hi => gr_far h.own hi
  have b7 : ∀ i, i < w7.heap.size → (w7.alloc o).heap[i]? = w7.heap[i]? := fun i hi => Lib.alloc_old w7 o i hi
  have b8 : ∀ i, i < base → w8.heap[i]? = w7.heap[i]? := fun i hi => (hg8.block i (by simp; omega) (fun e => hrow i hi e.symm)).trans (b7 i (by omega))
  have t78 : Two base g P w7 w8 := ⟨hg8.os, hg8.tape, hg8.output, by omega, fun i hi _ _ => b8 i hi⟩
  have t07 : Two base g P x w7 := Two.of_only (w := x) ⟨hO7.os, hO7.tape, hO7.output, hO7.size, hO7.block⟩ hsz
  have tall := (h.fr.trans t07).trans (t78.trans (Two.put base g P w8 6 v8))
  have cqq : w8.cell? ⟨Q, 0, none⟩ = x.cell? ⟨Q, 0, none⟩ := ((t07.trans t78).cell hqb hqg hqp)
  have bpp : w8.heap[P]? = x.heap[P]? := (b8 P hpb).trans (hO7.block P (by show P < x.heap.size; omega) (by intro e; injection e with e; exact hpg e))
  have bx8 : Bxn w8 P (cs.set 6 v) := by
    obtain ⟨T, hT⟩ := h.bx
    exact ⟨T, bpp.trans hT⟩
  refine ⟨?_, ?_, ?_, ?_, ?_, tall⟩
  · exact (hT7.blk (b8 g hgb)).blk (Below.heap_setCell w8 ⟨P, 6, none⟩ _ g (by rintro rfl; exact hpg rfl))
  · exact gr_only hown8 ((Only.refl P w8).set 6 v8) hpb
  · have := bx8.set 6 v8
    rw [List.set_set] at this
    exact this
  · rw [World.cell?_setCell_other _ _ _ _ (by intro e; injection e with e; exact hqp e.symm)]
    exact cqq.trans h.cq
  · simp [World.setCell]; omega
set_option maxRecDepth 100000 in
set_option maxHeartbeats 4000000 in
theorem eclo (w0 : World) (P Q g base : Nat) (l : List UInt8) (b : Bool) (es : List Lo.En) (cs : List Value) (v : Value) (x : World) (h : Te w0 P Q g base l b es cs v x) (hcs : cs.length = 11) (hl : l.length ≤ maxLen) (h3 : es.length ≤ 1000)
    (hpb : P < base) (hqb : Q < base) (hgb : g < base) (hpg : P ≠ g) (hqg : Q ≠ g) (hqp : Q ≠ P) :
    Calls Try.prog 57 #[.pointer (some ⟨P, 0, none⟩), .pointer (some ⟨Q, 0, none⟩)] x fun e x' => e = .returned (.tuple #[]) ∧ ∃ v', Te w0 P Q g base (ttR l) (decide (ttW l ≠ 0)) (es ++ [wdV (ttT l)]) cs v' x' := by
  obtain ⟨av, cv, rfl⟩ := h.own.slice
  have H := Lib.hid h
  have c0 : x.drew.cell? ⟨P, 6, none⟩ = some (.slice av es.length cv) := (h.bx.cell 6).trans (set6 hcs _)
  have c1 : x.drew.cell? ⟨Q, 0, none⟩ = some (.pointer (some ⟨g, 0, none⟩)) := h.cq
  have HU := Lib.hid (take_entry g l b x.drew h.tk hl)
  have hf0 : x.drew.frozen? ⟨P, 6, none⟩ = false := h.bx.fz 6
  have hsz := h.sz
  have hsx : x.drew.heap.size = x.heap.size := rfl
  have HXD : Hid (Lo.Gr x.drew base (.slice av es.length cv) es) := h.own.below ((Below.refl _ _).drew)
  have HVL := Lib.hid (wdV_lt (ttT l))
  have HKS := Lib.hid (wdV_ks (ttT l))
  have HMK := Lib.hid (wdM_ok (ttT l))
  unfold EnIs Lo.enV at HU
  clear h
  generalize wdM (ttT l) = ms at *
  generalize hk : wdV (ttT l) = k at *
  clear hk
  obtain ⟨ei, et, ek, ed, eks⟩ := k
  simp only at HU HVL HKS
  obtain rfl : eks = ms.map fun (k : Nat) => (k : Int) := HKS.out
  clear HKS
  go_enter Try.func57, Try.ntmps57
  go_wp2
  go_region_law
    (first
    | (go_simp; go_at_call 58; go_loud ((with_reducible refine HU.out.mono ?_); rintro e w7 ⟨⟨v7, rfl, hown7⟩, hT7, hO7⟩; obtain ⟨a7, k7, rfl⟩ := hown7.slice; have HT7 := Lib.hid hT7; have HO7 := Lib.hid hO7; have hs7 : x.heap.size ≤ w7.heap.size := hO7.size; have HI7 := Lib.hid (own_intsR hown7 HMK.out.2 HMK.out.1); have d0 := (only_cell hO7 (b := P) (i := 6) (by show P < x.heap.size; omega) hpg).trans c0; have d1 := (only_cell hO7 (b := Q) (i := 0) (by show Q < x.heap.size; omega) hqg).trans c1; have HX7 := Lib.hid (gr_only HXD.out hO7 hgb); have m7 : ∀ o, (w7.alloc o).cell? ⟨P, 6, none⟩ = some (.slice av es.length cv) := (fun o => (World.cell?_alloc_lt w7 o ⟨P, 6, none⟩ (by show P < _; omega)).trans d0); have n7 : ∀ o, (w7.alloc o).cell? ⟨Q, 0, none⟩ = some (.pointer (some ⟨g, 0, none⟩)) := (fun o => (World.cell?_alloc_lt w7 o ⟨Q, 0, none⟩ (by show Q < _; omega)).trans d1); clear hT7 hO7 hown7))
    | (go_loud (refine step_ent rfl (.tmp 3) (.tmp 6) rfl base es ⟨ei, et, ek, ed, ms.map fun (k : Nat) => (k : Int)⟩ (.slice a7 ms.length k7) _ rfl (HX7.out.below ((Below.refl _ _).alloc (Nat.le_refl _) _)) w7.heap.size x.drew.heap.size (HI7.out.keep ((Below.refl _ _).alloc (Nat.le_refl _) _)) hsz (by simp) (fun q hq => .inl (HXD.out.lt q hq).2) HVL.out.1 HVL.out.2.1 rfl ⟨w7.heap.size, 0, none⟩ 1 rfl (Lo.new_cells w7 _ _) h3 (by simp; omega) ?_; intro v8 w8 hown8 hg8; obtain ⟨a8, c8, rfl⟩ := hown8.slice; have f8 := (grown_frozen hg8 (b := P) (i := 6) (by simp; omega) (gr_far HX7.out hpb)).trans ((World.frozen?_alloc_past (w := w7) (.cells #[.int .u64 (ei : Nat), .int .u64 (et : Nat), .int .u8 (ek : Nat), .string ed, .slice a7 ms.length k7] 73) P 6 (by omega)).trans ((only_frozen HO7.out (b := P) (i := 6) (by show P < x.heap.size; omega) hpg).trans hf0)); have hp8 : (w7.alloc (.cells #[.int .u64 (ei : Nat), .int .u64 (et : Nat), .int .u8 (ek : Nat), .string ed, .slice a7 ms.length k7] 73)).cell? ⟨P, 6, none⟩ = some (.slice av es.length cv) := m7 _; have hq8 := n7 (.cells #[.int .u64 (ei : Nat), .int .u64 (et : Nat), .int .u8 (ek : Nat), .string ed, .slice a7 ms.length k7] 73); have hs8 := hg8.size; have r8 := fun j hj => gr_far HX7.out (g := j) hj; have d8 := (grown_cell hg8 (b := P) (i := 6) (by simp; omega) (r8 P hpb)).trans hp8; have d9 := (grown_cell hg8 (b := Q) (i := 0) (by simp; omega) (r8 Q hqb)).trans hq8)))
  all_goals
    go_wp2
    go_end0
    exact ⟨rfl, _, te_end H.out hpb hqb hgb hpg hqg hqp HT7.out HO7.out (by have h9 := hown8; rw [List.length_append] at h9; exact h9) hg8⟩
end Hd
end Go.Proofs.Ytlkdjnnlbccjdaa

/-
  A MESSAGE is taken: (*msg.taker).msg.
-/
namespace Go.Proofs.Ytlkdjnnlbccjdaa
open Go.RowKit
namespace Hd
open PM
set_option linter.unusedVariables false
def zM : List Value := [.int .u8 0, .int .u64 0, .int .u64 0, .int .u64 0, .int .u64 0, .bool false, .slice none 0 0, .int .u64 0, .int .u64 0, .slice none 0 0, .string ⟨#[]⟩]
def sn0 : Sn := ⟨0, 0, [], ⟨#[]⟩⟩
/-! Entries as they are taken: what is left, whether something is wrong, what was taken, behind k of them. -/
def eR (l : List UInt8) : Nat → List UInt8
  | 0 => upR 8 l
  | k + 1 => ttR (eR l k)
def eB (l : List UInt8) : Nat → Bool
  | 0 => upB 8 l
  | k + 1 => decide (ttW (eR l k) ≠ 0)
def eL (l : List UInt8) : Nat → List Lo.En
  | 0 => []
  | k + 1 => eL l k ++ [wdV (ttT (eR l k))]
theorem eR_length (l : List UInt8) : ∀ k, (eR l k).length ≤ l.length
  | 0 => upR_length 8 l
  | k + 1 => Nat.le_trans (ttR_length _) (eR_length l k)
theorem eL_length (l : List UInt8) : ∀ k, (eL l k).length = k
  | 0 => rfl
  | k + 1 => by rw [eL, List.length_append, eL_length l k]; rfl
/-- What is taken: the message, what is left, whether something is wrong. -/
def tkT (l : List UInt8) : Nat := tnN (upR 6 l)
def tk2 (l : List UInt8) : List UInt8 := tnR (upR 6 l)
def tk5 (l : List UInt8) : List UInt8 := tnR (tnR (tnR (tk2 l)))
def snT (l : List UInt8) : Sn := ⟨sdI (ttT l), sdT (ttT l), (sdM (ttT l)).map fun (k : Nat) => (k : Int), bs (sdD (ttT l))⟩
def tkV (l : List UInt8) : Mg × List UInt8 × Bool :=
  if upV 6 l = 1 then (⟨1, tkT l, tnN (tk2 l), tnN (tnR (tk2 l)), 0, false, [], sn0⟩, tnR (tnR (tk2 l)), decide (tnW (tnR (tk2 l)) ≠ 0))
  else if upV 6 l = 2 then (⟨2, tkT l, 0, 0, 0, yesB (tk2 l), [], sn0⟩, upR 1 (tk2 l), upB 1 (tk2 l))
  else if upV 6 l = 3 then (⟨3, tkT l, tnN (tk2 l), tnN (tnR (tk2 l)), tnN (tnR (tnR (tk2 l))), false, eL (tk5 l) (upV 8 (tk5 l)), sn0⟩, eR (tk5 l) (upV 8 (tk5 l)), eB (tk5 l) (upV 8 (tk5 l)))
  else if upV 6 l = 4 then (⟨4, tkT l, tnN (upR 1 (tk2 l)), 0, 0, yesB (tk2 l), [], sn0⟩, tnR (upR 1 (tk2 l)), decide (tnW (upR 1 (tk2 l)) ≠ 0))
  else if upV 6 l = 5 then (⟨5, tkT l, 0, 0, 0, false, [], snT (tk2 l)⟩, ttR (tk2 l), decide (ttW (tk2 l) ≠ 0))
  else (⟨upV 6 l, tkT l, 0, 0, 0, false, [], sn0⟩, tk2 l, decide (tnW (upR 6 l) ≠ 0))
/-- Where the taking stands: the box of the taker's address, of the result, of the message. -/
structure Tm (w0 : World) (g : Nat) (l : List UInt8) (b : Bool) (cs : List Value) (x : World) : Prop where
  tk : Tk x g l b
  pb : Bxn x w0.heap.size [.pointer (some ⟨g, 0, none⟩)]
  rb : Bxn x (w0.heap.size + 1) zM
  bx : Bxn x (w0.heap.size + 2) cs
  on : Only g w0 x
  lt : g < w0.heap.size
theorem Tm.go {w0 : World} {g : Nat} {l l2 : List UInt8} {b b2 : Bool} {cs : List Value} {x x' : World} (h : Tm w0 g l b cs x) (ht : Tk x' g l2 b2) (ho : Only g x x') : Tm w0 g l2 b2 cs x' :=
  ⟨ht, h.pb.only ho (by have := h.lt; omega), h.rb.only ho (by have := h.lt; omega), h.bx.only ho (by have := h.lt; omega), h.on.trans ho, h.lt⟩
theorem Tm.p {w0 : World} {g : Nat} {l : List UInt8} {b : Bool} {cs : List Value} {x : World} (h : Tm w0 g l b cs x) (i : Nat) (u : Value) : Tm w0 g l b (cs.set i u) (x.setCell ⟨w0.heap.size + 2, i, none⟩ u) :=
  ⟨h.tk.far (by have := h.lt; omega) i u, h.pb.apart (by omega) i u, h.rb.apart (by omega) i u, h.bx.set i u, h.on.put2 (by omega) i u, h.lt⟩
theorem Tm.made {w : World} {g : Nat} {l : List UInt8} {b : Bool} (h : Tk w g l b) : Tm w g l b zM (((w.alloc (.cells #[.pointer (some ⟨g, 0, none⟩)] 91)).alloc (.cells zM.toArray 29)).alloc (.cells zM.toArray 29)) := by
  have h1 : Below w.heap.size w (w.alloc (.cells #[.pointer (some ⟨g, 0, none⟩)] 91)) := (Below.refl _ _).alloc (Nat.le_refl _) _
  generalize hW1 : w.alloc (.cells #[.pointer (some ⟨g, 0, none⟩)] 91) = W1 at *
  have s1 : W1.heap.size = w.heap.size + 1 := by rw [← hW1]; simp
  have p1 : Bxn W1 w.heap.size [.pointer (some ⟨g, 0, none⟩)] := by rw [← hW1]; exact Bxn.made w _ _
  have h2 : Below W1.heap.size W1 (W1.alloc (.cells zM.toArray 29)) := (Below.refl _ _).alloc (Nat.le_refl _) _
  have q2 : Bxn (W1.alloc (.cells zM.toArray 29)) (w.heap.size + 1) zM := by rw [← s1]; exact Bxn.made W1 _ _
  have s2 : (W1.alloc (.cells zM.toArray 29)).heap.size = w.heap.size + 2 := by rw [World.size_alloc, s1]
  generalize W1.alloc (.cells zM.toArray 29) = W2 at *
  have h3 : Below W2.heap.size W2 (W2.alloc (.cells zM.toArray 29)) := (Below.refl _ _).alloc (Nat.le_refl _) _
  have q3 : Bxn (W2.alloc (.cells zM.toArray 29)) (w.heap.size + 2) zM := by rw [← s2]; exact Bxn.made W2 _ _
  generalize W2.alloc (.cells zM.toArray 29) = W3 at *
  have hb : Below w.heap.size w W3 := (h1.trans (h2.mono (by omega))).trans (h3.mono (by omega))
  exact ⟨h.below hb h.lt, (p1.below h2).below h3, q2.below h3, q3, Only.of_below hb, h.lt⟩
theorem Tm.all {w0 : World} {g : Nat} {l : List UInt8} {b : Bool} {cs : List Value} {x : World} (h : Tm w0 g l b cs x) (vs : List Value) (hl : vs.length = 11) :
    Bxn (x.setCells (w0.heap.size + 1) 0 vs) (w0.heap.size + 1) vs ∧ Tk (x.setCells (w0.heap.size + 1) 0 vs) g l b ∧ Only g w0 (x.setCells (w0.heap.size + 1) 0 vs) ∧ Only (w0.heap.size + 1) x (x.setCells (w0.heap.size + 1) 0 vs) := by
  have ho := only_setCells (w0.heap.size + 1) vs 0 x
  have hlt := h.lt
  exact ⟨h.rb.all vs hl, h.tk.off ho (by omega), h.on.both ho (Nat.le_succ _), ho⟩
theorem Bxn.two {B g P Q : Nat} {w w' : World} {cs : List Value} (h : Bxn w Q cs) (t : Two B g P w w') (h1 : Q < B) (h2 : Q ≠ g) (h3 : Q ≠ P) : Bxn w' Q cs := by
  obtain ⟨T, h⟩ := h
  exact ⟨T, (t.2.2.2.2 Q h1 h2 h3).trans h⟩
theorem only_two {B g P : Nat} {w x w' : World} (h : Only g w x) (t : Two B g P x w') (hP : w.heap.size ≤ P) (hB : w.heap.size ≤ B) : Only g w w' :=
  ⟨t.1.trans h.os, t.2.1.trans h.tape, t.2.2.1.trans h.output, Nat.le_trans h.size t.2.2.2.1, fun i hi hne => (t.2.2.2.2 i (by omega) (by intro e; exact hne (by rw [e])) (by omega)).trans (h.block i hi hne)⟩
theorem intsR_nil (w : World) (A B : Nat) : Lo.IntsR w A B (.slice none 0 0) [] := ⟨none, 0, rfl, by simp, by simp, by simp⟩
/-- What the taking of a message comes to. -/
def TmIs (w : World) (m : Mg) (e : Ending) (w' : World) : Prop := ∃ a cp v, e = .returned (mgV m a cp v) ∧ Lo.Sl w' w.heap.size w'.heap.size a cp m.l ∧ Lo.IntsR w' w.heap.size w'.heap.size v m.s.ks
theorem TmIs.plain {w w' : World} {m : Mg} (hl : m.l = []) (hs : m.s = sn0) : TmIs w m (.returned (.agg #[.int .u8 (m.k : Nat), .int .u64 (m.t : Nat), .int .u64 (m.x : Nat), .int .u64 (m.u : Nat), .int .u64 (m.c : Nat), .bool m.ok, .slice none 0 0, .int .u64 0, .int .u64 0, .slice none 0 0, .string ⟨#[]⟩])) w' := by
  refine ⟨none, 0, .slice none 0 0, ?_, ?_, ?_⟩
  · unfold mgV; rw [hl, hs]; rfl
  · rw [hl]; exact Lo.Sl.empty _ _ _ _ _ (fun _ => rfl)
  · rw [hs]; exact intsR_nil _ _ _
set_option maxRecDepth 100000 in
set_option maxHeartbeats 8000000 in
theorem msg_take1 (g : Nat) (l : List UInt8) (b : Bool) (w : World) (h : Tk w g l b) (hl : l.length ≤ maxLen) (hk : upV 6 l = 1) :
    Calls Try.prog 23 #[.pointer (some ⟨g, 0, none⟩)] w fun e w' => TmIs w (tkV l).1 e w' ∧ Tk w' g (tkV l).2.1 (tkV l).2.2 ∧ Only g w w' := by
  have hv : tkV l = (⟨1, tkT l, tnN (tk2 l), tnN (tnR (tk2 l)), 0, false, [], sn0⟩, tnR (tnR (tk2 l)), decide (tnW (tnR (tk2 l)) ≠ 0)) := by unfold tkV; rw [hk]; rfl
  rw [hv]
  clear hv
  unfold tkT tk2
  have hu := fun z hz => upto_part g l b 6 z hz hl
  rw [hk, show ((6 : Nat) : Int) = 6 from rfl] at hu
  try rw [show ((1 : Nat) : Int) = 1 from rfl] at hu
  have HU := Lib.hid hu
  have HS0 := Lib.hid (Tm.made h)
  have tkk : IntKind.u8.wrap 1 = 1 := by decide
  have HL1 : Hid ((upR 6 l).length ≤ maxLen) := Nat.le_trans (upR_length 6 l) hl
  clear hu h hl hk
  generalize hq1 : upR 6 l = L1 at *
  generalize upB 6 l = B1 at *
  clear hq1
  go_enter Try.func23, Try.ntmps23
  go_wp2_with fail
  refine (HU.out _ HS0.out.tk).mono ?_
  rintro e w1 ⟨rfl, ht, ho⟩
  have HS1 := Lib.hid (HS0.out.go ht ho)
  clear ht ho
  have c0_0 : w1.cell? ⟨w.heap.size + 2, 0, none⟩ = some (.int .u8 0) := HS1.out.bx.cell 0
  have f0_0 := HS1.out.bx.fz 0
  have p0 : w1.cell? ⟨w.heap.size, 0, none⟩ = some (.pointer (some ⟨g, 0, none⟩)) := HS1.out.pb.cell 0
  go_wp2_with fail
  have HS2 := Lib.hid (HS1.out.p 0 (.int .u8 1))
  refine (number_part g L1 _ _ HS2.out.tk HL1.out).mono ?_
  rintro e w2 ⟨rfl, ht, ho⟩
  have HS3 := Lib.hid (HS2.out.go ht ho)
  clear ht ho
  have HL2 : Hid ((tnR L1).length ≤ maxLen) := Nat.le_trans (tnR_length _ ) HL1.out
  generalize hq2 : tnR L1 = L2 at *
  have c1_1 : w2.cell? ⟨w.heap.size + 2, 1, none⟩ = some (.int .u64 0) := HS3.out.bx.cell 1
  have f1_1 := HS3.out.bx.fz 1
  have p1 : w2.cell? ⟨w.heap.size, 0, none⟩ = some (.pointer (some ⟨g, 0, none⟩)) := HS3.out.pb.cell 0
  have k1 : w2.cell? ⟨w.heap.size + 2, 0, none⟩ = some (.int .u8 1) := HS3.out.bx.cell 0
  go_wp2_with fail
  have HS4 := Lib.hid (HS3.out.p 1 (.int .u64 (tnN L1 : Nat)))
  refine (number_part g L2 _ _ HS4.out.tk HL2.out).mono ?_
  rintro e w3 ⟨rfl, ht, ho⟩
  have HS5 := Lib.hid (HS4.out.go ht ho)
  clear ht ho
  have HL3 : Hid ((tnR L2).length ≤ maxLen) := Nat.le_trans (tnR_length _ ) HL2.out
  generalize hq3 : tnR L2 = L3 at *
  have c2_2 : w3.cell? ⟨w.heap.size + 2, 2, none⟩ = some (.int .u64 0) := HS5.out.bx.cell 2
  have f2_2 := HS5.out.bx.fz 2
  have p2 : w3.cell? ⟨w.heap.size, 0, none⟩ = some (.pointer (some ⟨g, 0, none⟩)) := HS5.out.pb.cell 0
  have k2 : w3.cell? ⟨w.heap.size + 2, 0, none⟩ = some (.int .u8 1) := HS5.out.bx.cell 0
  go_wp2_with fail
  have HS6 := Lib.hid (HS5.out.p 2 (.int .u64 (tnN L2 : Nat)))
  refine (number_part g L3 _ _ HS6.out.tk HL3.out).mono ?_
  rintro e w4 ⟨rfl, ht, ho⟩
  have HS7 := Lib.hid (HS6.out.go ht ho)
  clear ht ho
  have HL4 : Hid ((tnR L3).length ≤ maxLen) := Nat.le_trans (tnR_length _ ) HL3.out
  generalize hq4 : tnR L3 = L4 at *
  have c3_3 : w4.cell? ⟨w.heap.size + 2, 3, none⟩ = some (.int .u64 0) := HS7.out.bx.cell 3
  have f3_3 := HS7.out.bx.fz 3
  have p3 : w4.cell? ⟨w.heap.size, 0, none⟩ = some (.pointer (some ⟨g, 0, none⟩)) := HS7.out.pb.cell 0
  have k3 : w4.cell? ⟨w.heap.size + 2, 0, none⟩ = some (.int .u8 1) := HS7.out.bx.cell 0
  have HE := Lib.hid (HS7.out.p 3 (.int .u64 (tnN L3 : Nat)))
  go_upto_region 20 with fail
  generalize hX : w4.setCell ⟨w.heap.size + 2, 3, none⟩ (.int .u64 (tnN L3 : Nat)) = X at *
  clear hX
  have HF : Hid (Tm w g _ _ ([.int .u8 1, .int .u64 (tnN L1 : Nat), .int .u64 (tnN L2 : Nat), .int .u64 (tnN L3 : Nat), .int .u64 0, .bool false, .slice none 0 0, .int .u64 0, .int .u64 0, .slice none 0 0, .string ⟨#[]⟩] : List Value) X) := HE.out
  clear HE
  have hth := HF.out.rb.there 11 rfl
  have hrg := HF.out.bx.range 0
  refine wp_region_list ?_
  refine wpList_load_mid rfl 29 (.tmp 3) rfl (w.heap.size + 2) 0 rfl _ _ hrg Try.underlying29 rfl rfl ?_
  refine wpList_store_mid rfl 29 (.tmp 2) (.tmp 71) rfl (w.heap.size + 1) 0 ([.int .u8 1, .int .u64 (tnN L1 : Nat), .int .u64 (tnN L2 : Nat), .int .u64 (tnN L3 : Nat), .int .u64 0, .bool false, .slice none 0 0, .int .u64 0, .int .u64 0, .slice none 0 0, .string ⟨#[]⟩] : List Value).toArray rfl rfl hth rfl (all_oneCell_toArray (by intro v hv; simp only [List.mem_cons, List.not_mem_nil, or_false] at hv; rcases hv with rfl | rfl | rfl | rfl | rfl | rfl | rfl | rfl | rfl | rfl | rfl <;> rfl)) ?_
  have HA := Lib.hid (HF.out.all ([.int .u8 1, .int .u64 (tnN L1 : Nat), .int .u64 (tnN L2 : Nat), .int .u64 (tnN L3 : Nat), .int .u64 0, .bool false, .slice none 0 0, .int .u64 0, .int .u64 0, .slice none 0 0, .string ⟨#[]⟩] : List Value) rfl)
  clear hth hrg HF
  refine wpList_nil ?_
  rw [show ([.int .u8 1, .int .u64 (tnN L1 : Nat), .int .u64 (tnN L2 : Nat), .int .u64 (tnN L3 : Nat), .int .u64 0, .bool false, .slice none 0 0, .int .u64 0, .int .u64 0, .slice none 0 0, .string ⟨#[]⟩] : List Value).toArray.toList = ([.int .u8 1, .int .u64 (tnN L1 : Nat), .int .u64 (tnN L2 : Nat), .int .u64 (tnN L3 : Nat), .int .u64 0, .bool false, .slice none 0 0, .int .u64 0, .int .u64 0, .slice none 0 0, .string ⟨#[]⟩] : List Value) from rfl]
  generalize X.setCells (w.heap.size + 1) 0 ([.int .u8 1, .int .u64 (tnN L1 : Nat), .int .u64 (tnN L2 : Nat), .int .u64 (tnN L3 : Nat), .int .u64 0, .bool false, .slice none 0 0, .int .u64 0, .int .u64 0, .slice none 0 0, .string ⟨#[]⟩] : List Value) = W4 at *
  go_wp2
  refine bodyPost_bx rfl (w.heap.size + 1) ([.int .u8 1, .int .u64 (tnN L1 : Nat), .int .u64 (tnN L2 : Nat), .int .u64 (tnN L3 : Nat), .int .u64 0, .bool false, .slice none 0 0, .int .u64 0, .int .u64 0, .slice none 0 0, .string ⟨#[]⟩] : List Value) _ rfl rfl ?_ Try.underlying29 rfl ?_ ?_
  case refine_1 => exact HA.out.1
  case refine_2 => rfl
  case refine_3 =>
    subst hq4; subst hq3; subst hq2; exact ⟨TmIs.plain rfl rfl, HA.out.2.1, HA.out.2.2.1⟩
set_option maxRecDepth 100000 in
set_option maxHeartbeats 8000000 in
theorem msg_take2 (g : Nat) (l : List UInt8) (b : Bool) (w : World) (h : Tk w g l b) (hl : l.length ≤ maxLen) (hk : upV 6 l = 2) :
    Calls Try.prog 23 #[.pointer (some ⟨g, 0, none⟩)] w fun e w' => TmIs w (tkV l).1 e w' ∧ Tk w' g (tkV l).2.1 (tkV l).2.2 ∧ Only g w w' := by
  have hv : tkV l = (⟨2, tkT l, 0, 0, 0, yesB (tk2 l), [], sn0⟩, upR 1 (tk2 l), upB 1 (tk2 l)) := by unfold tkV; rw [hk]; rfl
  rw [hv]
  clear hv
  unfold tkT tk2
  have hu := fun z hz => upto_part g l b 6 z hz hl
  rw [hk, show ((6 : Nat) : Int) = 6 from rfl] at hu
  try rw [show ((2 : Nat) : Int) = 2 from rfl] at hu
  have HU := Lib.hid hu
  have HS0 := Lib.hid (Tm.made h)
  have tkk : IntKind.u8.wrap 2 = 2 := by decide
  have HL1 : Hid ((upR 6 l).length ≤ maxLen) := Nat.le_trans (upR_length 6 l) hl
  clear hu h hl hk
  generalize hq1 : upR 6 l = L1 at *
  generalize upB 6 l = B1 at *
  clear hq1
  go_enter Try.func23, Try.ntmps23
  go_wp2_with fail
  refine (HU.out _ HS0.out.tk).mono ?_
  rintro e w1 ⟨rfl, ht, ho⟩
  have HS1 := Lib.hid (HS0.out.go ht ho)
  clear ht ho
  have c0_0 : w1.cell? ⟨w.heap.size + 2, 0, none⟩ = some (.int .u8 0) := HS1.out.bx.cell 0
  have f0_0 := HS1.out.bx.fz 0
  have p0 : w1.cell? ⟨w.heap.size, 0, none⟩ = some (.pointer (some ⟨g, 0, none⟩)) := HS1.out.pb.cell 0
  go_wp2_with fail
  have HS2 := Lib.hid (HS1.out.p 0 (.int .u8 2))
  refine (number_part g L1 _ _ HS2.out.tk HL1.out).mono ?_
  rintro e w2 ⟨rfl, ht, ho⟩
  have HS3 := Lib.hid (HS2.out.go ht ho)
  clear ht ho
  have HL2 : Hid ((tnR L1).length ≤ maxLen) := Nat.le_trans (tnR_length _ ) HL1.out
  generalize hq2 : tnR L1 = L2 at *
  have c1_1 : w2.cell? ⟨w.heap.size + 2, 1, none⟩ = some (.int .u64 0) := HS3.out.bx.cell 1
  have f1_1 := HS3.out.bx.fz 1
  have p1 : w2.cell? ⟨w.heap.size, 0, none⟩ = some (.pointer (some ⟨g, 0, none⟩)) := HS3.out.pb.cell 0
  have k1 : w2.cell? ⟨w.heap.size + 2, 0, none⟩ = some (.int .u8 2) := HS3.out.bx.cell 0
  go_wp2_with fail
  have HS4 := Lib.hid (HS3.out.p 1 (.int .u64 (tnN L1 : Nat)))
  refine (take_yes g L2 _ _ HS4.out.tk HL2.out).mono ?_
  rintro e w3 ⟨rfl, ht, ho⟩
  have HS5 := Lib.hid (HS4.out.go ht ho)
  clear ht ho
  have HL3 : Hid ((upR 1 L2).length ≤ maxLen) := Nat.le_trans (upR_length 1 _) HL2.out
  generalize hq3 : upR 1 L2 = L3 at *
  have c2_5 : w3.cell? ⟨w.heap.size + 2, 5, none⟩ = some (.bool false) := HS5.out.bx.cell 5
  have f2_5 := HS5.out.bx.fz 5
  have p2 : w3.cell? ⟨w.heap.size, 0, none⟩ = some (.pointer (some ⟨g, 0, none⟩)) := HS5.out.pb.cell 0
  have k2 : w3.cell? ⟨w.heap.size + 2, 0, none⟩ = some (.int .u8 2) := HS5.out.bx.cell 0
  have HE := Lib.hid (HS5.out.p 5 (.bool (yesB L2)))
  go_upto_region 20 with fail
  generalize hX : w3.setCell ⟨w.heap.size + 2, 5, none⟩ (.bool (yesB L2)) = X at *
  clear hX
  have HF : Hid (Tm w g _ _ ([.int .u8 2, .int .u64 (tnN L1 : Nat), .int .u64 0, .int .u64 0, .int .u64 0, .bool (yesB L2), .slice none 0 0, .int .u64 0, .int .u64 0, .slice none 0 0, .string ⟨#[]⟩] : List Value) X) := HE.out
  clear HE
  have hth := HF.out.rb.there 11 rfl
  have hrg := HF.out.bx.range 0
  refine wp_region_list ?_
  refine wpList_load_mid rfl 29 (.tmp 3) rfl (w.heap.size + 2) 0 rfl _ _ hrg Try.underlying29 rfl rfl ?_
  refine wpList_store_mid rfl 29 (.tmp 2) (.tmp 71) rfl (w.heap.size + 1) 0 ([.int .u8 2, .int .u64 (tnN L1 : Nat), .int .u64 0, .int .u64 0, .int .u64 0, .bool (yesB L2), .slice none 0 0, .int .u64 0, .int .u64 0, .slice none 0 0, .string ⟨#[]⟩] : List Value).toArray rfl rfl hth rfl (all_oneCell_toArray (by intro v hv; simp only [List.mem_cons, List.not_mem_nil, or_false] at hv; rcases hv with rfl | rfl | rfl | rfl | rfl | rfl | rfl | rfl | rfl | rfl | rfl <;> rfl)) ?_
  have HA := Lib.hid (HF.out.all ([.int .u8 2, .int .u64 (tnN L1 : Nat), .int .u64 0, .int .u64 0, .int .u64 0, .bool (yesB L2), .slice none 0 0, .int .u64 0, .int .u64 0, .slice none 0 0, .string ⟨#[]⟩] : List Value) rfl)
  clear hth hrg HF
  refine wpList_nil ?_
  rw [show ([.int .u8 2, .int .u64 (tnN L1 : Nat), .int .u64 0, .int .u64 0, .int .u64 0, .bool (yesB L2), .slice none 0 0, .int .u64 0, .int .u64 0, .slice none 0 0, .string ⟨#[]⟩] : List Value).toArray.toList = ([.int .u8 2, .int .u64 (tnN L1 : Nat), .int .u64 0, .int .u64 0, .int .u64 0, .bool (yesB L2), .slice none 0 0, .int .u64 0, .int .u64 0, .slice none 0 0, .string ⟨#[]⟩] : List Value) from rfl]
  generalize X.setCells (w.heap.size + 1) 0 ([.int .u8 2, .int .u64 (tnN L1 : Nat), .int .u64 0, .int .u64 0, .int .u64 0, .bool (yesB L2), .slice none 0 0, .int .u64 0, .int .u64 0, .slice none 0 0, .string ⟨#[]⟩] : List Value) = W4 at *
  go_wp2
  refine bodyPost_bx rfl (w.heap.size + 1) ([.int .u8 2, .int .u64 (tnN L1 : Nat), .int .u64 0, .int .u64 0, .int .u64 0, .bool (yesB L2), .slice none 0 0, .int .u64 0, .int .u64 0, .slice none 0 0, .string ⟨#[]⟩] : List Value) _ rfl rfl ?_ Try.underlying29 rfl ?_ ?_
  case refine_1 => exact HA.out.1
  case refine_2 => rfl
  case refine_3 =>
    subst hq3; subst hq2; exact ⟨TmIs.plain rfl rfl, HA.out.2.1, HA.out.2.2.1⟩
set_option maxRecDepth 100000 in
set_option maxHeartbeats 8000000 in
theorem msg_take3 (g : Nat) (l : List UInt8) (b : Bool) (w : World) (h : Tk w g l b) (hl : l.length ≤ maxLen) (hk : upV 6 l = 3) :
    Calls Try.prog 23 #[.pointer (some ⟨g, 0, none⟩)] w fun e w' => TmIs w (tkV l).1 e w' ∧ Tk w' g (tkV l).2.1 (tkV l).2.2 ∧ Only g w w' := by
  have hv : tkV l = (⟨3, tkT l, tnN (tk2 l), tnN (tnR (tk2 l)), tnN (tnR (tnR (tk2 l))), false, eL (tk5 l) (upV 8 (tk5 l)), sn0⟩, eR (tk5 l) (upV 8 (tk5 l)), eB (tk5 l) (upV 8 (tk5 l))) := by unfold tkV; rw [hk]; rfl
  rw [hv]
  clear hv
  unfold tkT tk5 tk2
  have hu := fun z hz => upto_part g l b 6 z hz hl
  rw [hk, show ((6 : Nat) : Int) = 6 from rfl] at hu
  try rw [show ((3 : Nat) : Int) = 3 from rfl] at hu
  have HU := Lib.hid hu
  have HS0 := Lib.hid (Tm.made h)
  have tkk : IntKind.u8.wrap 3 = 3 := by decide
  have HL1 : Hid ((upR 6 l).length ≤ maxLen) := Nat.le_trans (upR_length 6 l) hl
  clear hu h hl hk
  generalize hq1 : upR 6 l = L1 at *
  generalize upB 6 l = B1 at *
  clear hq1
  have hmf : ∀ (fn : Fn) (first cap : Array Value) (w : World), (Instr.makeFunc fn first cap).run Try.prog w = .ok (.func fn first cap) w := fun _ _ _ _ => rfl
  go_enter Try.func23, Try.ntmps23
  go_wp2_with fail
  refine (HU.out _ HS0.out.tk).mono ?_
  rintro e w1 ⟨rfl, ht, ho⟩
  have HS1 := Lib.hid (HS0.out.go ht ho)
  clear ht ho
  have c0_0 : w1.cell? ⟨w.heap.size + 2, 0, none⟩ = some (.int .u8 0) := HS1.out.bx.cell 0
  have f0_0 := HS1.out.bx.fz 0
  have p0 : w1.cell? ⟨w.heap.size, 0, none⟩ = some (.pointer (some ⟨g, 0, none⟩)) := HS1.out.pb.cell 0
  go_wp2_with fail
  have HS2 := Lib.hid (HS1.out.p 0 (.int .u8 3))
  refine (number_part g L1 _ _ HS2.out.tk HL1.out).mono ?_
  rintro e w2 ⟨rfl, ht, ho⟩
  have HS3 := Lib.hid (HS2.out.go ht ho)
  clear ht ho
  have HL2 : Hid ((tnR L1).length ≤ maxLen) := Nat.le_trans (tnR_length _ ) HL1.out
  generalize hq2 : tnR L1 = L2 at *
  have c1_1 : w2.cell? ⟨w.heap.size + 2, 1, none⟩ = some (.int .u64 0) := HS3.out.bx.cell 1
  have f1_1 := HS3.out.bx.fz 1
  have p1 : w2.cell? ⟨w.heap.size, 0, none⟩ = some (.pointer (some ⟨g, 0, none⟩)) := HS3.out.pb.cell 0
  have k1 : w2.cell? ⟨w.heap.size + 2, 0, none⟩ = some (.int .u8 3) := HS3.out.bx.cell 0
  go_wp2_with fail
  have HS4 := Lib.hid (HS3.out.p 1 (.int .u64 (tnN L1 : Nat)))
  refine (number_part g L2 _ _ HS4.out.tk HL2.out).mono ?_
  rintro e w3 ⟨rfl, ht, ho⟩
  have HS5 := Lib.hid (HS4.out.go ht ho)
  clear ht ho
  have HL3 : Hid ((tnR L2).length ≤ maxLen) := Nat.le_trans (tnR_length _ ) HL2.out
  generalize hq3 : tnR L2 = L3 at *
  have c2_2 : w3.cell? ⟨w.heap.size + 2, 2, none⟩ = some (.int .u64 0) := HS5.out.bx.cell 2
  have f2_2 := HS5.out.bx.fz 2
  have p2 : w3.cell? ⟨w.heap.size, 0, none⟩ = some (.pointer (some ⟨g, 0, none⟩)) := HS5.out.pb.cell 0
  have k2 : w3.cell? ⟨w.heap.size + 2, 0, none⟩ = some (.int .u8 3) := HS5.out.bx.cell 0
  go_wp2_with fail
  have HS6 := Lib.hid (HS5.out.p 2 (.int .u64 (tnN L2 : Nat)))
  refine (number_part g L3 _ _ HS6.out.tk HL3.out).mono ?_
  rintro e w4 ⟨rfl, ht, ho⟩
  have HS7 := Lib.hid (HS6.out.go ht ho)
  clear ht ho
  have HL4 : Hid ((tnR L3).length ≤ maxLen) := Nat.le_trans (tnR_length _ ) HL3.out
  generalize hq4 : tnR L3 = L4 at *
  have c3_3 : w4.cell? ⟨w.heap.size + 2, 3, none⟩ = some (.int .u64 0) := HS7.out.bx.cell 3
  have f3_3 := HS7.out.bx.fz 3
  have p3 : w4.cell? ⟨w.heap.size, 0, none⟩ = some (.pointer (some ⟨g, 0, none⟩)) := HS7.out.pb.cell 0
  have k3 : w4.cell? ⟨w.heap.size + 2, 0, none⟩ = some (.int .u8 3) := HS7.out.bx.cell 0
  go_wp2_with fail
  have HS8 := Lib.hid (HS7.out.p 3 (.int .u64 (tnN L3 : Nat)))
  refine (number_part g L4 _ _ HS8.out.tk HL4.out).mono ?_
  rintro e w5 ⟨rfl, ht, ho⟩
  have HS9 := Lib.hid (HS8.out.go ht ho)
  clear ht ho
  have HL5 : Hid ((tnR L4).length ≤ maxLen) := Nat.le_trans (tnR_length _ ) HL4.out
  generalize hq5 : tnR L4 = L5 at *
  have c4_4 : w5.cell? ⟨w.heap.size + 2, 4, none⟩ = some (.int .u64 0) := HS9.out.bx.cell 4
  have f4_4 := HS9.out.bx.fz 4
  have p4 : w5.cell? ⟨w.heap.size, 0, none⟩ = some (.pointer (some ⟨g, 0, none⟩)) := HS9.out.pb.cell 0
  have k4 : w5.cell? ⟨w.heap.size + 2, 0, none⟩ = some (.int .u8 3) := HS9.out.bx.cell 0
  go_wp2_with fail
  have HS10 := Lib.hid (HS9.out.p 4 (.int .u64 (tnN L4 : Nat)))
  have HTM : Hid (Calls Try.prog 56 #[.pointer (some ⟨g, 0, none⟩), .int .u64 8, .func (.func 57) #[] #[.pointer (some ⟨w.heap.size + 2, 0, none⟩), .pointer (some ⟨w.heap.size, 0, none⟩)]] (w5.setCell ⟨w.heap.size + 2, 4, none⟩ (.int .u64 (tnN L4 : Nat))) fun e w' => e = .returned (.tuple #[]) ∧ ∃ v', Te (w5.setCell ⟨w.heap.size + 2, 4, none⟩ (.int .u64 (tnN L4 : Nat))) (w.heap.size + 2) w.heap.size g (w.heap.size + 3) (eR L5 (upV 8 L5)) (eB L5 (upV 8 L5)) (eL L5 (upV 8 L5)) ([.int .u8 3, .int .u64 (tnN L1 : Nat), .int .u64 (tnN L2 : Nat), .int .u64 (tnN L3 : Nat), .int .u64 (tnN L4 : Nat), .bool false, .slice none 0 0, .int .u64 0, .int .u64 0, .slice none 0 0, .string ⟨#[]⟩] : List Value) v' w') := by
    have hgl := HS10.out.lt
    have hsz : w.heap.size + 3 ≤ (w5.setCell ⟨w.heap.size + 2, 4, none⟩ (.int .u64 (tnN L4 : Nat))).heap.size := HS10.out.bx.lt
    have := ttimes _ (Go.Proofs.enters_of Try.func57 (by kernel_rfl) rfl) (.pointer (some ⟨w.heap.size + 2, 0, none⟩)) (.pointer (some ⟨w.heap.size, 0, none⟩)) g 8 L5 _ (fun k x => ∃ v', Te (w5.setCell ⟨w.heap.size + 2, 4, none⟩ (.int .u64 (tnN L4 : Nat))) (w.heap.size + 2) w.heap.size g (w.heap.size + 3) (eR L5 k) (eB L5 k) (eL L5 k) ([.int .u8 3, .int .u64 (tnN L1 : Nat), .int .u64 (tnN L2 : Nat), .int .u64 (tnN L3 : Nat), .int .u64 (tnN L4 : Nat), .bool false, .slice none 0 0, .int .u64 0, .int .u64 0, .slice none 0 0, .string ⟨#[]⟩] : List Value) v' x) (w5.setCell ⟨w.heap.size + 2, 4, none⟩ (.int .u64 (tnN L4 : Nat))) HS10.out.tk HL5.out ?_ ?_
    · rw [show ((8 : Nat) : Int) = 8 from rfl] at this
      exact this
    · intro z ho ht
      exact ⟨.slice none 0 0, ht, Lo.Gr.nil _ _, HS10.out.bx.only ho (by omega), (HS10.out.pb.only ho (by omega)).cell 0, Nat.le_trans hsz ho.size, Two.of_only ho hsz⟩
    · intro i hi x hx
      obtain ⟨v, hx⟩ := hx
      have h8 := upV_le 8 L5
      refine (eclo (w5.setCell ⟨w.heap.size + 2, 4, none⟩ (.int .u64 (tnN L4 : Nat))) (w.heap.size + 2) w.heap.size g (w.heap.size + 3) _ _ _ _ v x hx rfl (Nat.le_trans (eR_length L5 i) HL5.out) (by rw [eL_length]; omega) (by omega) (by omega) (by omega) (by omega) (by omega) (by omega)).mono ?_
      rintro e x' ⟨he, v', h2⟩
      exact ⟨he, v', h2⟩
  refine HTM.out.mono ?_
  rintro e w6 ⟨rfl, v6, HJ0⟩
  have HJ := Lib.hid HJ0
  clear HJ0 HTM
  obtain ⟨a6, k6, rfl⟩ := HJ.out.own.slice
  have HGR := Lib.hid HJ.out.own
  have HS11 : Hid (Tm w g (eR L5 (upV 8 L5)) (eB L5 (upV 8 L5)) (List.set ([.int .u8 3, .int .u64 (tnN L1 : Nat), .int .u64 (tnN L2 : Nat), .int .u64 (tnN L3 : Nat), .int .u64 (tnN L4 : Nat), .bool false, .slice none 0 0, .int .u64 0, .int .u64 0, .slice none 0 0, .string ⟨#[]⟩] : List Value) 6 (.slice a6 (eL L5 (upV 8 L5)).length k6)) w6) := by
    have hgl := HS10.out.lt
    exact ⟨HJ.out.tk, HS10.out.pb.two HJ.out.fr (by omega) (by omega) (by omega), HS10.out.rb.two HJ.out.fr (by omega) (by omega) (by omega), HJ.out.bx, only_two HS10.out.on HJ.out.fr (by omega) (by omega), hgl⟩
  clear HJ
  have HE := HS11
  have HG6 := Lib.hid HGR.out
  clear HGR
  go_upto_region 20 with fail
  generalize hX : w6 = X at *
  clear hX
  have HF : Hid (Tm w g _ _ ([.int .u8 3, .int .u64 (tnN L1 : Nat), .int .u64 (tnN L2 : Nat), .int .u64 (tnN L3 : Nat), .int .u64 (tnN L4 : Nat), .bool false, .slice a6 (eL L5 (upV 8 L5)).length k6, .int .u64 0, .int .u64 0, .slice none 0 0, .string ⟨#[]⟩] : List Value) X) := HE.out
  clear HE
  have hth := HF.out.rb.there 11 rfl
  have hrg := HF.out.bx.range 0
  refine wp_region_list ?_
  refine wpList_load_mid rfl 29 (.tmp 3) rfl (w.heap.size + 2) 0 rfl _ _ hrg Try.underlying29 rfl rfl ?_
  refine wpList_store_mid rfl 29 (.tmp 2) (.tmp 71) rfl (w.heap.size + 1) 0 ([.int .u8 3, .int .u64 (tnN L1 : Nat), .int .u64 (tnN L2 : Nat), .int .u64 (tnN L3 : Nat), .int .u64 (tnN L4 : Nat), .bool false, .slice a6 (eL L5 (upV 8 L5)).length k6, .int .u64 0, .int .u64 0, .slice none 0 0, .string ⟨#[]⟩] : List Value).toArray rfl rfl hth rfl (all_oneCell_toArray (by intro v hv; simp only [List.mem_cons, List.not_mem_nil, or_false] at hv; rcases hv with rfl | rfl | rfl | rfl | rfl | rfl | rfl | rfl | rfl | rfl | rfl <;> rfl)) ?_
  have HA := Lib.hid (HF.out.all ([.int .u8 3, .int .u64 (tnN L1 : Nat), .int .u64 (tnN L2 : Nat), .int .u64 (tnN L3 : Nat), .int .u64 (tnN L4 : Nat), .bool false, .slice a6 (eL L5 (upV 8 L5)).length k6, .int .u64 0, .int .u64 0, .slice none 0 0, .string ⟨#[]⟩] : List Value) rfl)
  have HI := Lib.hid ((gr_only HG6.out HA.out.2.2.2 (by omega)).slb (by rw [eL_length]; have := upV_le 8 L5; omega))
  clear HG6
  clear hth hrg HF
  refine wpList_nil ?_
  rw [show ([.int .u8 3, .int .u64 (tnN L1 : Nat), .int .u64 (tnN L2 : Nat), .int .u64 (tnN L3 : Nat), .int .u64 (tnN L4 : Nat), .bool false, .slice a6 (eL L5 (upV 8 L5)).length k6, .int .u64 0, .int .u64 0, .slice none 0 0, .string ⟨#[]⟩] : List Value).toArray.toList = ([.int .u8 3, .int .u64 (tnN L1 : Nat), .int .u64 (tnN L2 : Nat), .int .u64 (tnN L3 : Nat), .int .u64 (tnN L4 : Nat), .bool false, .slice a6 (eL L5 (upV 8 L5)).length k6, .int .u64 0, .int .u64 0, .slice none 0 0, .string ⟨#[]⟩] : List Value) from rfl]
  generalize X.setCells (w.heap.size + 1) 0 ([.int .u8 3, .int .u64 (tnN L1 : Nat), .int .u64 (tnN L2 : Nat), .int .u64 (tnN L3 : Nat), .int .u64 (tnN L4 : Nat), .bool false, .slice a6 (eL L5 (upV 8 L5)).length k6, .int .u64 0, .int .u64 0, .slice none 0 0, .string ⟨#[]⟩] : List Value) = W4 at *
  go_wp2
  refine bodyPost_bx rfl (w.heap.size + 1) ([.int .u8 3, .int .u64 (tnN L1 : Nat), .int .u64 (tnN L2 : Nat), .int .u64 (tnN L3 : Nat), .int .u64 (tnN L4 : Nat), .bool false, .slice a6 (eL L5 (upV 8 L5)).length k6, .int .u64 0, .int .u64 0, .slice none 0 0, .string ⟨#[]⟩] : List Value) _ rfl rfl ?_ Try.underlying29 rfl ?_ ?_
  case refine_1 => exact HA.out.1
  case refine_2 => rfl
  case refine_3 =>
    subst hq5; subst hq4; subst hq3; subst hq2; exact ⟨⟨_, _, _, rfl, HI.out.more (A' := w.heap.size) (B' := W4.heap.size) (Nat.le_refl _) (by omega), intsR_nil _ _ _⟩, HA.out.2.1, HA.out.2.2.1⟩
set_option maxRecDepth 100000 in
set_option maxHeartbeats 8000000 in
theorem msg_take4 (g : Nat) (l : List UInt8) (b : Bool) (w : World) (h : Tk w g l b) (hl : l.length ≤ maxLen) (hk : upV 6 l = 4) :
    Calls Try.prog 23 #[.pointer (some ⟨g, 0, none⟩)] w fun e w' => TmIs w (tkV l).1 e w' ∧ Tk w' g (tkV l).2.1 (tkV l).2.2 ∧ Only g w w' := by
  have hv : tkV l = (⟨4, tkT l, tnN (upR 1 (tk2 l)), 0, 0, yesB (tk2 l), [], sn0⟩, tnR (upR 1 (tk2 l)), decide (tnW (upR 1 (tk2 l)) ≠ 0)) := by unfold tkV; rw [hk]; rfl
  rw [hv]
  clear hv
  unfold tkT tk2
  have hu := fun z hz => upto_part g l b 6 z hz hl
  rw [hk, show ((6 : Nat) : Int) = 6 from rfl] at hu
  try rw [show ((4 : Nat) : Int) = 4 from rfl] at hu
  have HU := Lib.hid hu
  have HS0 := Lib.hid (Tm.made h)
  have tkk : IntKind.u8.wrap 4 = 4 := by decide
  have HL1 : Hid ((upR 6 l).length ≤ maxLen) := Nat.le_trans (upR_length 6 l) hl
  clear hu h hl hk
  generalize hq1 : upR 6 l = L1 at *
  generalize upB 6 l = B1 at *
  clear hq1
  go_enter Try.func23, Try.ntmps23
  go_wp2_with fail
  refine (HU.out _ HS0.out.tk).mono ?_
  rintro e w1 ⟨rfl, ht, ho⟩
  have HS1 := Lib.hid (HS0.out.go ht ho)
  clear ht ho
  have c0_0 : w1.cell? ⟨w.heap.size + 2, 0, none⟩ = some (.int .u8 0) := HS1.out.bx.cell 0
  have f0_0 := HS1.out.bx.fz 0
  have p0 : w1.cell? ⟨w.heap.size, 0, none⟩ = some (.pointer (some ⟨g, 0, none⟩)) := HS1.out.pb.cell 0
  go_wp2_with fail
  have HS2 := Lib.hid (HS1.out.p 0 (.int .u8 4))
  refine (number_part g L1 _ _ HS2.out.tk HL1.out).mono ?_
  rintro e w2 ⟨rfl, ht, ho⟩
  have HS3 := Lib.hid (HS2.out.go ht ho)
  clear ht ho
  have HL2 : Hid ((tnR L1).length ≤ maxLen) := Nat.le_trans (tnR_length _ ) HL1.out
  generalize hq2 : tnR L1 = L2 at *
  have c1_1 : w2.cell? ⟨w.heap.size + 2, 1, none⟩ = some (.int .u64 0) := HS3.out.bx.cell 1
  have f1_1 := HS3.out.bx.fz 1
  have p1 : w2.cell? ⟨w.heap.size, 0, none⟩ = some (.pointer (some ⟨g, 0, none⟩)) := HS3.out.pb.cell 0
  have k1 : w2.cell? ⟨w.heap.size + 2, 0, none⟩ = some (.int .u8 4) := HS3.out.bx.cell 0
  go_wp2_with fail
  have HS4 := Lib.hid (HS3.out.p 1 (.int .u64 (tnN L1 : Nat)))
  refine (take_yes g L2 _ _ HS4.out.tk HL2.out).mono ?_
  rintro e w3 ⟨rfl, ht, ho⟩
  have HS5 := Lib.hid (HS4.out.go ht ho)
  clear ht ho
  have HL3 : Hid ((upR 1 L2).length ≤ maxLen) := Nat.le_trans (upR_length 1 _) HL2.out
  generalize hq3 : upR 1 L2 = L3 at *
  have c2_5 : w3.cell? ⟨w.heap.size + 2, 5, none⟩ = some (.bool false) := HS5.out.bx.cell 5
  have f2_5 := HS5.out.bx.fz 5
  have p2 : w3.cell? ⟨w.heap.size, 0, none⟩ = some (.pointer (some ⟨g, 0, none⟩)) := HS5.out.pb.cell 0
  have k2 : w3.cell? ⟨w.heap.size + 2, 0, none⟩ = some (.int .u8 4) := HS5.out.bx.cell 0
  go_wp2_with fail
  have HS6 := Lib.hid (HS5.out.p 5 (.bool (yesB L2)))
  refine (number_part g L3 _ _ HS6.out.tk HL3.out).mono ?_
  rintro e w4 ⟨rfl, ht, ho⟩
  have HS7 := Lib.hid (HS6.out.go ht ho)
  clear ht ho
  have HL4 : Hid ((tnR L3).length ≤ maxLen) := Nat.le_trans (tnR_length _ ) HL3.out
  generalize hq4 : tnR L3 = L4 at *
  have c3_2 : w4.cell? ⟨w.heap.size + 2, 2, none⟩ = some (.int .u64 0) := HS7.out.bx.cell 2
  have f3_2 := HS7.out.bx.fz 2
  have p3 : w4.cell? ⟨w.heap.size, 0, none⟩ = some (.pointer (some ⟨g, 0, none⟩)) := HS7.out.pb.cell 0
  have k3 : w4.cell? ⟨w.heap.size + 2, 0, none⟩ = some (.int .u8 4) := HS7.out.bx.cell 0
  have HE := Lib.hid (HS7.out.p 2 (.int .u64 (tnN L3 : Nat)))
  go_upto_region 20 with fail
  generalize hX : w4.setCell ⟨w.heap.size + 2, 2, none⟩ (.int .u64 (tnN L3 : Nat)) = X at *
  clear hX
  have HF : Hid (Tm w g _ _ ([.int .u8 4, .int .u64 (tnN L1 : Nat), .int .u64 (tnN L3 : Nat), .int .u64 0, .int .u64 0, .bool (yesB L2), .slice none 0 0, .int .u64 0, .int .u64 0, .slice none 0 0, .string ⟨#[]⟩] : List Value) X) := HE.out
  clear HE
  have hth := HF.out.rb.there 11 rfl
  have hrg := HF.out.bx.range 0
  refine wp_region_list ?_
  refine wpList_load_mid rfl 29 (.tmp 3) rfl (w.heap.size + 2) 0 rfl _ _ hrg Try.underlying29 rfl rfl ?_
  refine wpList_store_mid rfl 29 (.tmp 2) (.tmp 71) rfl (w.heap.size + 1) 0 ([.int .u8 4, .int .u64 (tnN L1 : Nat), .int .u64 (tnN L3 : Nat), .int .u64 0, .int .u64 0, .bool (yesB L2), .slice none 0 0, .int .u64 0, .int .u64 0, .slice none 0 0, .string ⟨#[]⟩] : List Value).toArray rfl rfl hth rfl (all_oneCell_toArray (by intro v hv; simp only [List.mem_cons, List.not_mem_nil, or_false] at hv; rcases hv with rfl | rfl | rfl | rfl | rfl | rfl | rfl | rfl | rfl | rfl | rfl <;> rfl)) ?_
  have HA := Lib.hid (HF.out.all ([.int .u8 4, .int .u64 (tnN L1 : Nat), .int .u64 (tnN L3 : Nat), .int .u64 0, .int .u64 0, .bool (yesB L2), .slice none 0 0, .int .u64 0, .int .u64 0, .slice none 0 0, .string ⟨#[]⟩] : List Value) rfl)
  clear hth hrg HF
  refine wpList_nil ?_
  rw [show ([.int .u8 4, .int .u64 (tnN L1 : Nat), .int .u64 (tnN L3 : Nat), .int .u64 0, .int .u64 0, .bool (yesB L2), .slice none 0 0, .int .u64 0, .int .u64 0, .slice none 0 0, .string ⟨#[]⟩] : List Value).toArray.toList = ([.int .u8 4, .int .u64 (tnN L1 : Nat), .int .u64 (tnN L3 : Nat), .int .u64 0, .int .u64 0, .bool (yesB L2), .slice none 0 0, .int .u64 0, .int .u64 0, .slice none 0 0, .string ⟨#[]⟩] : List Value) from rfl]
  generalize X.setCells (w.heap.size + 1) 0 ([.int .u8 4, .int .u64 (tnN L1 : Nat), .int .u64 (tnN L3 : Nat), .int .u64 0, .int .u64 0, .bool (yesB L2), .slice none 0 0, .int .u64 0, .int .u64 0, .slice none 0 0, .string ⟨#[]⟩] : List Value) = W4 at *
  go_wp2
  refine bodyPost_bx rfl (w.heap.size + 1) ([.int .u8 4, .int .u64 (tnN L1 : Nat), .int .u64 (tnN L3 : Nat), .int .u64 0, .int .u64 0, .bool (yesB L2), .slice none 0 0, .int .u64 0, .int .u64 0, .slice none 0 0, .string ⟨#[]⟩] : List Value) _ rfl rfl ?_ Try.underlying29 rfl ?_ ?_
  case refine_1 => exact HA.out.1
  case refine_2 => rfl
  case refine_3 =>
    subst hq4; subst hq3; subst hq2; exact ⟨TmIs.plain rfl rfl, HA.out.2.1, HA.out.2.2.1⟩
set_option maxRecDepth 100000 in
set_option maxHeartbeats 8000000 in
theorem msg_take5 (g : Nat) (l : List UInt8) (b : Bool) (w : World) (h : Tk w g l b) (hl : l.length ≤ maxLen) (hk : upV 6 l = 5) :
    Calls Try.prog 23 #[.pointer (some ⟨g, 0, none⟩)] w fun e w' => TmIs w (tkV l).1 e w' ∧ Tk w' g (tkV l).2.1 (tkV l).2.2 ∧ Only g w w' := by
  have hv : tkV l = (⟨5, tkT l, 0, 0, 0, false, [], snT (tk2 l)⟩, ttR (tk2 l), decide (ttW (tk2 l) ≠ 0)) := by unfold tkV; rw [hk]; rfl
  rw [hv]
  clear hv
  unfold tkT tk2
  have hu := fun z hz => upto_part g l b 6 z hz hl
  rw [hk, show ((6 : Nat) : Int) = 6 from rfl] at hu
  try rw [show ((5 : Nat) : Int) = 5 from rfl] at hu
  have HU := Lib.hid hu
  have HS0 := Lib.hid (Tm.made h)
  have tkk : IntKind.u8.wrap 5 = 5 := by decide
  have HL1 : Hid ((upR 6 l).length ≤ maxLen) := Nat.le_trans (upR_length 6 l) hl
  clear hu h hl hk
  generalize hq1 : upR 6 l = L1 at *
  generalize upB 6 l = B1 at *
  clear hq1
  go_enter Try.func23, Try.ntmps23
  go_wp2_with fail
  refine (HU.out _ HS0.out.tk).mono ?_
  rintro e w1 ⟨rfl, ht, ho⟩
  have HS1 := Lib.hid (HS0.out.go ht ho)
  clear ht ho
  have c0_0 : w1.cell? ⟨w.heap.size + 2, 0, none⟩ = some (.int .u8 0) := HS1.out.bx.cell 0
  have f0_0 := HS1.out.bx.fz 0
  have p0 : w1.cell? ⟨w.heap.size, 0, none⟩ = some (.pointer (some ⟨g, 0, none⟩)) := HS1.out.pb.cell 0
  go_wp2_with fail
  have HS2 := Lib.hid (HS1.out.p 0 (.int .u8 5))
  refine (number_part g L1 _ _ HS2.out.tk HL1.out).mono ?_
  rintro e w2 ⟨rfl, ht, ho⟩
  have HS3 := Lib.hid (HS2.out.go ht ho)
  clear ht ho
  have HL2 : Hid ((tnR L1).length ≤ maxLen) := Nat.le_trans (tnR_length _ ) HL1.out
  generalize hq2 : tnR L1 = L2 at *
  have c1_1 : w2.cell? ⟨w.heap.size + 2, 1, none⟩ = some (.int .u64 0) := HS3.out.bx.cell 1
  have f1_1 := HS3.out.bx.fz 1
  have p1 : w2.cell? ⟨w.heap.size, 0, none⟩ = some (.pointer (some ⟨g, 0, none⟩)) := HS3.out.pb.cell 0
  have k1 : w2.cell? ⟨w.heap.size + 2, 0, none⟩ = some (.int .u8 5) := HS3.out.bx.cell 0
  go_wp2_with fail
  have HS4 := Lib.hid (HS3.out.p 1 (.int .u64 (tnN L1 : Nat)))
  refine (take_snap g L2 _ _ HS4.out.tk HL2.out).mono ?_
  rintro e w3 ⟨⟨v5, rfl, hown⟩, ht, ho⟩
  obtain ⟨a5, k5, rfl⟩ := hown.slice
  have HO5 : Hid (OwnI w3 (w.heap.size + 3) _ (sdM (ttT L2))) := hown.less (by have := HS4.out.bx.lt; omega)
  clear hown
  have HS5 := Lib.hid (HS4.out.go ht ho)
  clear ht ho
  have HL3 : Hid ((ttR L2).length ≤ maxLen) := Nat.le_trans (ttR_length _ ) HL2.out
  generalize hq3 : ttR L2 = L3 at *
  have c2_7 : w3.cell? ⟨w.heap.size + 2, 7, none⟩ = some (.int .u64 0) := HS5.out.bx.cell 7
  have f2_7 := HS5.out.bx.fz 7
  have c2_8 : w3.cell? ⟨w.heap.size + 2, 8, none⟩ = some (.int .u64 0) := HS5.out.bx.cell 8
  have f2_8 := HS5.out.bx.fz 8
  have c2_9 : w3.cell? ⟨w.heap.size + 2, 9, none⟩ = some (.slice none 0 0) := HS5.out.bx.cell 9
  have f2_9 := HS5.out.bx.fz 9
  have c2_10 : w3.cell? ⟨w.heap.size + 2, 10, none⟩ = some (.string ⟨#[]⟩) := HS5.out.bx.cell 10
  have f2_10 := HS5.out.bx.fz 10
  have p2 : w3.cell? ⟨w.heap.size, 0, none⟩ = some (.pointer (some ⟨g, 0, none⟩)) := HS5.out.pb.cell 0
  have k2 : w3.cell? ⟨w.heap.size + 2, 0, none⟩ = some (.int .u8 5) := HS5.out.bx.cell 0
  have HE := Lib.hid ((((HS5.out.p 7 (.int .u64 (sdI (ttT L2) : Nat))).p 8 (.int .u64 (sdT (ttT L2) : Nat))).p 9 (.slice a5 (sdM (ttT L2)).length k5)).p 10 (.string (bs (sdD (ttT L2)))))
  have HO6 := Lib.hid ((((HO5.out.put (p := w.heap.size + 2) (by omega) 7 (.int .u64 (sdI (ttT L2) : Nat))).put (p := w.heap.size + 2) (by omega) 8 (.int .u64 (sdT (ttT L2) : Nat))).put (p := w.heap.size + 2) (by omega) 9 (.slice a5 (sdM (ttT L2)).length k5)).put (p := w.heap.size + 2) (by omega) 10 (.string (bs (sdD (ttT L2)))))
  go_upto_region 20 with fail
  generalize hX : (((w3.setCell ⟨w.heap.size + 2, 7, none⟩ (.int .u64 (sdI (ttT L2) : Nat))).setCell ⟨w.heap.size + 2, 8, none⟩ (.int .u64 (sdT (ttT L2) : Nat))).setCell ⟨w.heap.size + 2, 9, none⟩ (.slice a5 (sdM (ttT L2)).length k5)).setCell ⟨w.heap.size + 2, 10, none⟩ (.string (bs (sdD (ttT L2)))) = X at *
  clear HO5
  clear hX
  have HF : Hid (Tm w g _ _ ([.int .u8 5, .int .u64 (tnN L1 : Nat), .int .u64 0, .int .u64 0, .int .u64 0, .bool false, .slice none 0 0, .int .u64 (sdI (ttT L2) : Nat), .int .u64 (sdT (ttT L2) : Nat), .slice a5 (sdM (ttT L2)).length k5, .string (bs (sdD (ttT L2)))] : List Value) X) := HE.out
  clear HE
  have hth := HF.out.rb.there 11 rfl
  have hrg := HF.out.bx.range 0
  refine wp_region_list ?_
  refine wpList_load_mid rfl 29 (.tmp 3) rfl (w.heap.size + 2) 0 rfl _ _ hrg Try.underlying29 rfl rfl ?_
  refine wpList_store_mid rfl 29 (.tmp 2) (.tmp 71) rfl (w.heap.size + 1) 0 ([.int .u8 5, .int .u64 (tnN L1 : Nat), .int .u64 0, .int .u64 0, .int .u64 0, .bool false, .slice none 0 0, .int .u64 (sdI (ttT L2) : Nat), .int .u64 (sdT (ttT L2) : Nat), .slice a5 (sdM (ttT L2)).length k5, .string (bs (sdD (ttT L2)))] : List Value).toArray rfl rfl hth rfl (all_oneCell_toArray (by intro v hv; simp only [List.mem_cons, List.not_mem_nil, or_false] at hv; rcases hv with rfl | rfl | rfl | rfl | rfl | rfl | rfl | rfl | rfl | rfl | rfl <;> rfl)) ?_
  have HA := Lib.hid (HF.out.all ([.int .u8 5, .int .u64 (tnN L1 : Nat), .int .u64 0, .int .u64 0, .int .u64 0, .bool false, .slice none 0 0, .int .u64 (sdI (ttT L2) : Nat), .int .u64 (sdT (ttT L2) : Nat), .slice a5 (sdM (ttT L2)).length k5, .string (bs (sdD (ttT L2)))] : List Value) rfl)
  have HI := Lib.hid (own_intsR (HO6.out.only HA.out.2.2.2 (by omega)) (sdM_ok (ttT L2)).2 (sdM_ok (ttT L2)).1)
  clear HO6
  clear hth hrg HF
  refine wpList_nil ?_
  rw [show ([.int .u8 5, .int .u64 (tnN L1 : Nat), .int .u64 0, .int .u64 0, .int .u64 0, .bool false, .slice none 0 0, .int .u64 (sdI (ttT L2) : Nat), .int .u64 (sdT (ttT L2) : Nat), .slice a5 (sdM (ttT L2)).length k5, .string (bs (sdD (ttT L2)))] : List Value).toArray.toList = ([.int .u8 5, .int .u64 (tnN L1 : Nat), .int .u64 0, .int .u64 0, .int .u64 0, .bool false, .slice none 0 0, .int .u64 (sdI (ttT L2) : Nat), .int .u64 (sdT (ttT L2) : Nat), .slice a5 (sdM (ttT L2)).length k5, .string (bs (sdD (ttT L2)))] : List Value) from rfl]
  generalize X.setCells (w.heap.size + 1) 0 ([.int .u8 5, .int .u64 (tnN L1 : Nat), .int .u64 0, .int .u64 0, .int .u64 0, .bool false, .slice none 0 0, .int .u64 (sdI (ttT L2) : Nat), .int .u64 (sdT (ttT L2) : Nat), .slice a5 (sdM (ttT L2)).length k5, .string (bs (sdD (ttT L2)))] : List Value) = W4 at *
  go_wp2
  refine bodyPost_bx rfl (w.heap.size + 1) ([.int .u8 5, .int .u64 (tnN L1 : Nat), .int .u64 0, .int .u64 0, .int .u64 0, .bool false, .slice none 0 0, .int .u64 (sdI (ttT L2) : Nat), .int .u64 (sdT (ttT L2) : Nat), .slice a5 (sdM (ttT L2)).length k5, .string (bs (sdD (ttT L2)))] : List Value) _ rfl rfl ?_ Try.underlying29 rfl ?_ ?_
  case refine_1 => exact HA.out.1
  case refine_2 => rfl
  case refine_3 =>
    subst hq3; subst hq2; exact ⟨⟨none, 0, _, rfl, Lo.Sl.empty _ _ _ _ _ (fun _ => rfl), HI.out.more (Nat.le_refl _) (by omega)⟩, HA.out.2.1, HA.out.2.2.1⟩
set_option maxRecDepth 100000 in
set_option maxHeartbeats 8000000 in
theorem msg_take0 (g : Nat) (l : List UInt8) (b : Bool) (w : World) (h : Tk w g l b) (hl : l.length ≤ maxLen) (hk : upV 6 l = 0) :
    Calls Try.prog 23 #[.pointer (some ⟨g, 0, none⟩)] w fun e w' => TmIs w (tkV l).1 e w' ∧ Tk w' g (tkV l).2.1 (tkV l).2.2 ∧ Only g w w' := by
  have hv : tkV l = (⟨0, tkT l, 0, 0, 0, false, [], sn0⟩, tk2 l, decide (tnW (upR 6 l) ≠ 0)) := by unfold tkV; rw [hk]; rfl
  rw [hv]
  clear hv
  unfold tkT tk2
  have hu := fun z hz => upto_part g l b 6 z hz hl
  rw [hk, show ((6 : Nat) : Int) = 6 from rfl] at hu
  try rw [show ((0 : Nat) : Int) = 0 from rfl] at hu
  have HU := Lib.hid hu
  have HS0 := Lib.hid (Tm.made h)
  have tkk : IntKind.u8.wrap 0 = 0 := by decide
  have HL1 : Hid ((upR 6 l).length ≤ maxLen) := Nat.le_trans (upR_length 6 l) hl
  clear hu h hl hk
  generalize hq1 : upR 6 l = L1 at *
  generalize upB 6 l = B1 at *
  clear hq1
  go_enter Try.func23, Try.ntmps23
  go_wp2_with fail
  refine (HU.out _ HS0.out.tk).mono ?_
  rintro e w1 ⟨rfl, ht, ho⟩
  have HS1 := Lib.hid (HS0.out.go ht ho)
  clear ht ho
  have c0_0 : w1.cell? ⟨w.heap.size + 2, 0, none⟩ = some (.int .u8 0) := HS1.out.bx.cell 0
  have f0_0 := HS1.out.bx.fz 0
  have p0 : w1.cell? ⟨w.heap.size, 0, none⟩ = some (.pointer (some ⟨g, 0, none⟩)) := HS1.out.pb.cell 0
  go_wp2_with fail
  have HS2 := Lib.hid (HS1.out.p 0 (.int .u8 0))
  refine (number_part g L1 _ _ HS2.out.tk HL1.out).mono ?_
  rintro e w2 ⟨rfl, ht, ho⟩
  have HS3 := Lib.hid (HS2.out.go ht ho)
  clear ht ho
  have HL2 : Hid ((tnR L1).length ≤ maxLen) := Nat.le_trans (tnR_length _ ) HL1.out
  generalize hq2 : tnR L1 = L2 at *
  have c1_1 : w2.cell? ⟨w.heap.size + 2, 1, none⟩ = some (.int .u64 0) := HS3.out.bx.cell 1
  have f1_1 := HS3.out.bx.fz 1
  have p1 : w2.cell? ⟨w.heap.size, 0, none⟩ = some (.pointer (some ⟨g, 0, none⟩)) := HS3.out.pb.cell 0
  have k1 : w2.cell? ⟨w.heap.size + 2, 0, none⟩ = some (.int .u8 0) := HS3.out.bx.cell 0
  have HE := Lib.hid (HS3.out.p 1 (.int .u64 (tnN L1 : Nat)))
  go_upto_region 20 with fail
  generalize hX : w2.setCell ⟨w.heap.size + 2, 1, none⟩ (.int .u64 (tnN L1 : Nat)) = X at *
  clear hX
  have HF : Hid (Tm w g _ _ ([.int .u8 0, .int .u64 (tnN L1 : Nat), .int .u64 0, .int .u64 0, .int .u64 0, .bool false, .slice none 0 0, .int .u64 0, .int .u64 0, .slice none 0 0, .string ⟨#[]⟩] : List Value) X) := HE.out
  clear HE
  have hth := HF.out.rb.there 11 rfl
  have hrg := HF.out.bx.range 0
  refine wp_region_list ?_
  refine wpList_load_mid rfl 29 (.tmp 3) rfl (w.heap.size + 2) 0 rfl _ _ hrg Try.underlying29 rfl rfl ?_
  refine wpList_store_mid rfl 29 (.tmp 2) (.tmp 71) rfl (w.heap.size + 1) 0 ([.int .u8 0, .int .u64 (tnN L1 : Nat), .int .u64 0, .int .u64 0, .int .u64 0, .bool false, .slice none 0 0, .int .u64 0, .int .u64 0, .slice none 0 0, .string ⟨#[]⟩] : List Value).toArray rfl rfl hth rfl (all_oneCell_toArray (by intro v hv; simp only [List.mem_cons, List.not_mem_nil, or_false] at hv; rcases hv with rfl | rfl | rfl | rfl | rfl | rfl | rfl | rfl | rfl | rfl | rfl <;> rfl)) ?_
  have HA := Lib.hid (HF.out.all ([.int .u8 0, .int .u64 (tnN L1 : Nat), .int .u64 0, .int .u64 0, .int .u64 0, .bool false, .slice none 0 0, .int .u64 0, .int .u64 0, .slice none 0 0, .string ⟨#[]⟩] : List Value) rfl)
  clear hth hrg HF
  refine wpList_nil ?_
  rw [show ([.int .u8 0, .int .u64 (tnN L1 : Nat), .int .u64 0, .int .u64 0, .int .u64 0, .bool false, .slice none 0 0, .int .u64 0, .int .u64 0, .slice none 0 0, .string ⟨#[]⟩] : List Value).toArray.toList = ([.int .u8 0, .int .u64 (tnN L1 : Nat), .int .u64 0, .int .u64 0, .int .u64 0, .bool false, .slice none 0 0, .int .u64 0, .int .u64 0, .slice none 0 0, .string ⟨#[]⟩] : List Value) from rfl]
  generalize X.setCells (w.heap.size + 1) 0 ([.int .u8 0, .int .u64 (tnN L1 : Nat), .int .u64 0, .int .u64 0, .int .u64 0, .bool false, .slice none 0 0, .int .u64 0, .int .u64 0, .slice none 0 0, .string ⟨#[]⟩] : List Value) = W4 at *
  go_wp2
  refine bodyPost_bx rfl (w.heap.size + 1) ([.int .u8 0, .int .u64 (tnN L1 : Nat), .int .u64 0, .int .u64 0, .int .u64 0, .bool false, .slice none 0 0, .int .u64 0, .int .u64 0, .slice none 0 0, .string ⟨#[]⟩] : List Value) _ rfl rfl ?_ Try.underlying29 rfl ?_ ?_
  case refine_1 => exact HA.out.1
  case refine_2 => rfl
  case refine_3 =>
    subst hq2; exact ⟨TmIs.plain rfl rfl, HA.out.2.1, HA.out.2.2.1⟩
set_option maxRecDepth 100000 in
set_option maxHeartbeats 8000000 in
theorem msg_take6 (g : Nat) (l : List UInt8) (b : Bool) (w : World) (h : Tk w g l b) (hl : l.length ≤ maxLen) (hk : upV 6 l = 6) :
    Calls Try.prog 23 #[.pointer (some ⟨g, 0, none⟩)] w fun e w' => TmIs w (tkV l).1 e w' ∧ Tk w' g (tkV l).2.1 (tkV l).2.2 ∧ Only g w w' := by
  have hv : tkV l = (⟨6, tkT l, 0, 0, 0, false, [], sn0⟩, tk2 l, decide (tnW (upR 6 l) ≠ 0)) := by unfold tkV; rw [hk]; rfl
  rw [hv]
  clear hv
  unfold tkT tk2
  have hu := fun z hz => upto_part g l b 6 z hz hl
  rw [hk, show ((6 : Nat) : Int) = 6 from rfl] at hu
  try rw [show ((6 : Nat) : Int) = 6 from rfl] at hu
  have HU := Lib.hid hu
  have HS0 := Lib.hid (Tm.made h)
  have tkk : IntKind.u8.wrap 6 = 6 := by decide
  have HL1 : Hid ((upR 6 l).length ≤ maxLen) := Nat.le_trans (upR_length 6 l) hl
  clear hu h hl hk
  generalize hq1 : upR 6 l = L1 at *
  generalize upB 6 l = B1 at *
  clear hq1
  go_enter Try.func23, Try.ntmps23
  go_wp2_with fail
  refine (HU.out _ HS0.out.tk).mono ?_
  rintro e w1 ⟨rfl, ht, ho⟩
  have HS1 := Lib.hid (HS0.out.go ht ho)
  clear ht ho
  have c0_0 : w1.cell? ⟨w.heap.size + 2, 0, none⟩ = some (.int .u8 0) := HS1.out.bx.cell 0
  have f0_0 := HS1.out.bx.fz 0
  have p0 : w1.cell? ⟨w.heap.size, 0, none⟩ = some (.pointer (some ⟨g, 0, none⟩)) := HS1.out.pb.cell 0
  go_wp2_with fail
  have HS2 := Lib.hid (HS1.out.p 0 (.int .u8 6))
  refine (number_part g L1 _ _ HS2.out.tk HL1.out).mono ?_
  rintro e w2 ⟨rfl, ht, ho⟩
  have HS3 := Lib.hid (HS2.out.go ht ho)
  clear ht ho
  have HL2 : Hid ((tnR L1).length ≤ maxLen) := Nat.le_trans (tnR_length _ ) HL1.out
  generalize hq2 : tnR L1 = L2 at *
  have c1_1 : w2.cell? ⟨w.heap.size + 2, 1, none⟩ = some (.int .u64 0) := HS3.out.bx.cell 1
  have f1_1 := HS3.out.bx.fz 1
  have p1 : w2.cell? ⟨w.heap.size, 0, none⟩ = some (.pointer (some ⟨g, 0, none⟩)) := HS3.out.pb.cell 0
  have k1 : w2.cell? ⟨w.heap.size + 2, 0, none⟩ = some (.int .u8 6) := HS3.out.bx.cell 0
  have HE := Lib.hid (HS3.out.p 1 (.int .u64 (tnN L1 : Nat)))
  go_upto_region 20 with fail
  generalize hX : w2.setCell ⟨w.heap.size + 2, 1, none⟩ (.int .u64 (tnN L1 : Nat)) = X at *
  clear hX
  have HF : Hid (Tm w g _ _ ([.int .u8 6, .int .u64 (tnN L1 : Nat), .int .u64 0, .int .u64 0, .int .u64 0, .bool false, .slice none 0 0, .int .u64 0, .int .u64 0, .slice none 0 0, .string ⟨#[]⟩] : List Value) X) := HE.out
  clear HE
  have hth := HF.out.rb.there 11 rfl
  have hrg := HF.out.bx.range 0
  refine wp_region_list ?_
  refine wpList_load_mid rfl 29 (.tmp 3) rfl (w.heap.size + 2) 0 rfl _ _ hrg Try.underlying29 rfl rfl ?_
  refine wpList_store_mid rfl 29 (.tmp 2) (.tmp 71) rfl (w.heap.size + 1) 0 ([.int .u8 6, .int .u64 (tnN L1 : Nat), .int .u64 0, .int .u64 0, .int .u64 0, .bool false, .slice none 0 0, .int .u64 0, .int .u64 0, .slice none 0 0, .string ⟨#[]⟩] : List Value).toArray rfl rfl hth rfl (all_oneCell_toArray (by intro v hv; simp only [List.mem_cons, List.not_mem_nil, or_false] at hv; rcases hv with rfl | rfl | rfl | rfl | rfl | rfl | rfl | rfl | rfl | rfl | rfl <;> rfl)) ?_
  have HA := Lib.hid (HF.out.all ([.int .u8 6, .int .u64 (tnN L1 : Nat), .int .u64 0, .int .u64 0, .int .u64 0, .bool false, .slice none 0 0, .int .u64 0, .int .u64 0, .slice none 0 0, .string ⟨#[]⟩] : List Value) rfl)
  clear hth hrg HF
  refine wpList_nil ?_
  rw [show ([.int .u8 6, .int .u64 (tnN L1 : Nat), .int .u64 0, .int .u64 0, .int .u64 0, .bool false, .slice none 0 0, .int .u64 0, .int .u64 0, .slice none 0 0, .string ⟨#[]⟩] : List Value).toArray.toList = ([.int .u8 6, .int .u64 (tnN L1 : Nat), .int .u64 0, .int .u64 0, .int .u64 0, .bool false, .slice none 0 0, .int .u64 0, .int .u64 0, .slice none 0 0, .string ⟨#[]⟩] : List Value) from rfl]
  generalize X.setCells (w.heap.size + 1) 0 ([.int .u8 6, .int .u64 (tnN L1 : Nat), .int .u64 0, .int .u64 0, .int .u64 0, .bool false, .slice none 0 0, .int .u64 0, .int .u64 0, .slice none 0 0, .string ⟨#[]⟩] : List Value) = W4 at *
  go_wp2
  refine bodyPost_bx rfl (w.heap.size + 1) ([.int .u8 6, .int .u64 (tnN L1 : Nat), .int .u64 0, .int .u64 0, .int .u64 0, .bool false, .slice none 0 0, .int .u64 0, .int .u64 0, .slice none 0 0, .string ⟨#[]⟩] : List Value) _ rfl rfl ?_ Try.underlying29 rfl ?_ ?_
  case refine_1 => exact HA.out.1
  case refine_2 => rfl
  case refine_3 =>
    subst hq2; exact ⟨TmIs.plain rfl rfl, HA.out.2.1, HA.out.2.2.1⟩
end Hd
end Go.Proofs.Ytlkdjnnlbccjdaa

/-
  PACKETS are read: msg.Decode.
-/
namespace Go.Proofs.Ytlkdjnnlbccjdaa
open Go.RowKit
namespace Hd
open PM
set_option linter.unusedVariables false
theorem msg_take (g : Nat) (l : List UInt8) (b : Bool) (w : World) (h : Tk w g l b) (hl : l.length ≤ maxLen) :
    Calls Try.prog 23 #[.pointer (some ⟨g, 0, none⟩)] w fun e w' => TmIs w (tkV l).1 e w' ∧ Tk w' g (tkV l).2.1 (tkV l).2.2 ∧ Only g w w' := by
  have hu := upV_le 6 l
  have hk : upV 6 l = 0 ∨ upV 6 l = 1 ∨ upV 6 l = 2 ∨ upV 6 l = 3 ∨ upV 6 l = 4 ∨ upV 6 l = 5 ∨ upV 6 l = 6 := by omega
  rcases hk with hk | hk | hk | hk | hk | hk | hk
  · exact msg_take0 g l b w h hl hk
  · exact msg_take1 g l b w h hl hk
  · exact msg_take2 g l b w h hl hk
  · exact msg_take3 g l b w h hl hk
  · exact msg_take4 g l b w h hl hk
  · exact msg_take5 g l b w h hl hk
  · exact msg_take6 g l b w h hl hk
theorem tkV_length (l : List UInt8) : (tkV l).2.1.length ≤ l.length := by
  have h1 := upR_length 6 l
  have h2 : (tk2 l).length ≤ l.length := Nat.le_trans (tnR_length _) h1
  unfold tkV
  split
  · exact Nat.le_trans (tnR_length _) (Nat.le_trans (tnR_length _) h2)
  · split
    · exact Nat.le_trans (upR_length _ _) h2
    · split
      · exact Nat.le_trans (eR_length _ _) (Nat.le_trans (tnR_length _) (Nat.le_trans (tnR_length _) (Nat.le_trans (tnR_length _) h2)))
      · split
        · exact Nat.le_trans (tnR_length _) (Nat.le_trans (upR_length _ _) h2)
        · split
          · exact Nat.le_trans (ttR_length _) h2
          · exact h2
theorem tfP_len (l : List UInt8) : (tfP l).length ≤ l.length := by
  unfold tfP; split
  · rw [List.length_take, List.length_drop]; omega
  · simp
theorem ent_only {w w' : World} {R A B b o : Nat} {e : Lo.En} {u : Value} (h : Lo.EntC w A B b o e u) (ho : Only R w w') (hb : b < w.heap.size) (hbR : b ≠ R) (hR : R < A ∨ B ≤ R) : Lo.EntC w' A B b o e u := by
  have k : ∀ i, w'.cell? ⟨b, i, none⟩ = w.cell? ⟨b, i, none⟩ := fun i => only_cell ho hb hbR
  exact ⟨(k _).trans h.c0, (k _).trans h.c1, (k _).trans h.c2, (k _).trans h.c3, (k _).trans h.c4, h.iv.grown ho (fun q hq => by injection hq with hq; omega), h.i64, h.t64⟩
theorem sl_only {w w' : World} {R A B : Nat} {a : Option Addr} {c : Nat} {l : List Lo.En} (h : Lo.Sl w A B a c l) (ho : Only R w w') (hB : B ≤ w.heap.size) (hR : R < A ∨ B ≤ R) : Lo.Sl w' A B a c l := by
  refine ⟨fun hp => ?_, h.cap, h.nil, h.len⟩
  obtain ⟨b, off, rfl, hA, hb, hc⟩ := h.mem hp
  exact ⟨b, off, rfl, hA, hb, fun i hi => (hc i hi).imp fun u hu => ent_only hu ho (by omega) (by omega) hR⟩
theorem ints_only {w w' : World} {R A B : Nat} {v : Value} {ks : List Int} (h : Lo.IntsR w A B v ks) (ho : Only R w w') (hR : R < A ∨ B ≤ R) : Lo.IntsR w' A B v ks :=
  h.grown ho (fun q hq => by injection hq with hq; omega)
def mg0 : Mg := ⟨0, 0, 0, 0, 0, false, [], sn0⟩
/-- The message that bytes are, if they are one. -/
def dmM (l : List UInt8) : Mg := (tkV (fmL l)).1
def dmD (l : List UInt8) : Bool := !(tkV (fmL l)).2.2 && (tkV (fmL l)).2.1.isEmpty
def dmOk (l : List UInt8) : Bool := dmD l && okM (dmM l)
def deV (l : List UInt8) : Mg := if dmOk l = true then dmM l else mg0
def deE (l : List UInt8) : Nat := if dmOk l = true then 0 else 4
def DmIs (w : World) (l : List UInt8) (e : Ending) (w' : World) : Prop := ∃ a cp v, e = .returned (.tuple #[mgV (deV l) a cp v, .int .i64 (deE l : Nat)]) ∧ Lo.Sl w' w.heap.size w'.heap.size a cp (deV l).l ∧ Lo.IntsR w' w.heap.size w'.heap.size v (deV l).s.ks
theorem DmIs.bad {w w' : World} {l : List UInt8} (h : dmOk l = false) : DmIs w l (.returned (.tuple #[.agg #[.int .u8 0, .int .u64 0, .int .u64 0, .int .u64 0, .int .u64 0, .bool false, .slice none 0 0, .int .u64 0, .int .u64 0, .slice none 0 0, .string ⟨#[]⟩], .int .i64 4])) w' := by
  have e1 : deV l = mg0 := by unfold deV; rw [h]; rfl
  have e2 : deE l = 4 := by unfold deE; rw [h]; rfl
  refine ⟨none, 0, .slice none 0 0, ?_, ?_, ?_⟩
  · rw [e1, e2]; rfl
  · rw [e1]; exact Lo.Sl.empty _ _ _ _ _ (fun _ => rfl)
  · rw [e1]; exact intsR_nil _ _ _
theorem DmIs.ok {w w' : World} {l : List UInt8} {m : Mg} (h : dmOk l = true) (hm : dmM l = m) {a : Option Addr} {cp : Nat} {v : Value} (h1 : Lo.Sl w' w.heap.size w'.heap.size a cp m.l) (h2 : Lo.IntsR w' w.heap.size w'.heap.size v m.s.ks) :
    DmIs w l (.returned (.tuple #[mgV m a cp v, .int .i64 0])) w' := by
  have e1 : deV l = m := by unfold deV; rw [if_pos h]; exact hm
  have e2 : deE l = 0 := by unfold deE; rw [if_pos h]
  refine ⟨a, cp, v, ?_, ?_, ?_⟩
  · rw [e1, e2]; rfl
  · rw [e1]; exact h1
  · rw [e1]; exact h2
theorem Wst.all {w : World} {g E : Nat} {l : List UInt8} {b : Bool} {cs rs : List Value} {x : World} (h : Wst w g E l b cs rs x) (vs : List Value) (hl : vs.length = rs.length) :
    Bxn (x.setCells w.heap.size 0 vs) w.heap.size vs ∧ Below w.heap.size w (x.setCells w.heap.size 0 vs) ∧ Only w.heap.size x (x.setCells w.heap.size 0 vs) := by
  have ho := only_setCells w.heap.size vs 0 x
  exact ⟨h.rb.all vs hl, h.be.trans (ho.below h.be.size (Nat.le_refl _)), ho⟩
set_option maxRecDepth 100000 in
set_option maxHeartbeats 8000000 in
theorem msg_decode (l : List UInt8) (w : World) (hl : l.length ≤ maxLen) :
    Calls Try.prog 11 #[.string (bs l)] w fun e w' => DmIs w l e w' ∧ Below w.heap.size w w' := by
  have HBAD := Lib.hid (fun (h : dmOk l = false) w' => DmIs.bad (w := w) (w' := w') h)
  have HGD := Lib.hid (fun m (h : dmOk l = true) (hm : dmM l = m) w' a cp v h1 h2 => DmIs.ok (w := w) (w' := w') h hm (a := a) (cp := cp) (v := v) h1 h2)
  have HOK : Hid (dmOk l = ((!(tkV (fmL l)).2.2 && (tkV (fmL l)).2.1.isEmpty) && okM (tkV (fmL l)).1)) := rfl
  have HDM : Hid (dmM l = (tkV (fmL l)).1) := rfl
  have hfl : (fmL l).length ≤ l.length := by
    unfold fmL
    split
    · split
      · exact tfP_len l
      · simp
    · simp
  have HF := Lib.hid (fun z => framed_any (bs l) z (by rw [bs_size]; exact hl))
  have HFI : Hid (∀ e, FramedIs (bs l).data.toList e → e = .returned (.agg #[.string (bs (fmL l)), .bool (fmB l)])) := by
    intro e he
    unfold FramedIs at he
    rw [bs_data] at he
    exact he
  have HT := Lib.hid (fun g z b hz => msg_take g (fmL l) b z hz (Nat.le_trans hfl hl))
  have HDN := Lib.hid (fun g z hz => done_part g (tkV (fmL l)).2.1 (tkV (fmL l)).2.2 z hz)
  clear hl hfl
  generalize dmOk l = ok at *
  generalize dmM l = dm at *
  generalize fmL l = L0 at *
  generalize fmB l = b0 at *
  generalize htv : tkV L0 = tv at *
  clear htv
  obtain ⟨m, L1, b1⟩ := tv
  simp only at HOK HDM HT HDN
  have hdm := HDM.out.symm
  subst hdm
  clear HDM
  go_enter Try.func11, Try.ntmps11
  go_wp2_with fail
  refine (HF.out _).mono ?_
  rintro e w1 ⟨he, hb⟩
  have he2 := HFI.out e he
  subst he2
  have RB := Lib.hid ((Bxn.made w zM 29).below hb)
  have HB := Lib.hid (((Below.refl _ w).alloc (Nat.le_refl _) (.cells ([.int .u8 0, .int .u64 0, .int .u64 0, .int .u64 0, .int .u64 0, .bool false, .slice none 0 0, .int .u64 0, .int .u64 0, .slice none 0 0, .string ⟨#[]⟩] : List Value).toArray 29)).trans (hb.mono (by simp)))
  have hz := hb.size
  have hz1 : w.heap.size < w1.heap.size := by simp at hz; omega
  clear hb he hz HF HFI
  go_wp2_with fail
  have HTK := Lib.hid (Tk.made 57 w1 L0 b0)
  have HA1 : Hid (Below w1.heap.size w1 (w1.alloc (.cells #[.string (bs L0), .bool b0] 57))) := (Below.refl _ _).alloc (Nat.le_refl _) _
  refine (HT.out w1.heap.size _ b0 HTK.out).mono ?_
  rintro e w2 ⟨⟨a2, cp2, v2, rfl, hs2, hi2⟩, ht, ho⟩
  have hgs : (w1.alloc (.cells #[.string (bs L0), .bool b0] 57)).heap.size = w1.heap.size + 1 := by simp
  rw [hgs] at hs2 hi2
  have hge : w1.heap.size + 1 ≤ w2.heap.size := by have := ho.size; rw [hgs] at this; exact this
  have HS2 := Lib.hid hs2
  have HI2 := Lib.hid hi2
  have HT2 := Lib.hid ht
  have HR2 := Lib.hid ((RB.out.below HA1.out).only ho (by omega))
  have HB2 := Lib.hid ((HB.out.trans (HA1.out.mono HB.out.size)).trans (ho.below (by rw [hgs]; omega) (by omega)))
  generalize w1.heap.size = g at *
  clear hs2 hi2 ht ho HTK HA1 RB HB HT hgs
  obtain ⟨sa, sc, rfl⟩ := HI2.out.slice
  unfold mgV
  have HN0 := Lib.hid (show Bxn (w2.alloc (.cells #[.int .u8 0, .int .u64 0, .int .u64 0, .int .u64 0, .int .u64 0, .bool false, .slice none 0 0, .int .u64 0, .int .u64 0, .slice none 0 0, .string ⟨#[]⟩] 29)) w2.heap.size zM from Bxn.made w2 zM _)
  have HBA : Hid (Below w2.heap.size w2 (w2.alloc (.cells #[.int .u8 0, .int .u64 0, .int .u64 0, .int .u64 0, .int .u64 0, .bool false, .slice none 0 0, .int .u64 0, .int .u64 0, .slice none 0 0, .string ⟨#[]⟩] 29))) := (Below.refl _ _).alloc (Nat.le_refl _) _
  have HON := Lib.hid (only_setCells w2.heap.size ([.int .u8 (m.k : Nat), .int .u64 (m.t : Nat), .int .u64 (m.x : Nat), .int .u64 (m.u : Nat), .int .u64 (m.c : Nat), .bool m.ok, .slice a2 m.l.length cp2, .int .u64 (m.s.i : Nat), .int .u64 (m.s.t : Nat), .slice sa m.s.ks.length sc, .string m.s.d] : List Value) 0 (w2.alloc (.cells #[.int .u8 0, .int .u64 0, .int .u64 0, .int .u64 0, .int .u64 0, .bool false, .slice none 0 0, .int .u64 0, .int .u64 0, .slice none 0 0, .string ⟨#[]⟩] 29)))
  have HW5 : Hid (Wst w g w2.heap.size L1 b1 ([.int .u8 (m.k : Nat), .int .u64 (m.t : Nat), .int .u64 (m.x : Nat), .int .u64 (m.u : Nat), .int .u64 (m.c : Nat), .bool m.ok, .slice a2 m.l.length cp2, .int .u64 (m.s.i : Nat), .int .u64 (m.s.t : Nat), .slice sa m.s.ks.length sc, .string m.s.d] : List Value) zM ((w2.alloc (.cells #[.int .u8 0, .int .u64 0, .int .u64 0, .int .u64 0, .int .u64 0, .bool false, .slice none 0 0, .int .u64 0, .int .u64 0, .slice none 0 0, .string ⟨#[]⟩] 29)).setCells w2.heap.size 0 ([.int .u8 (m.k : Nat), .int .u64 (m.t : Nat), .int .u64 (m.x : Nat), .int .u64 (m.u : Nat), .int .u64 (m.c : Nat), .bool m.ok, .slice a2 m.l.length cp2, .int .u64 (m.s.i : Nat), .int .u64 (m.s.t : Nat), .slice sa m.s.ks.length sc, .string m.s.d] : List Value))) := by
    have h1 := HT2.out.below HBA.out HT2.out.lt
    have h2 := HR2.out.below HBA.out
    have hlt2 := HR2.out.lt
    refine ⟨h1.off HON.out (by omega), HN0.out.all ([.int .u8 (m.k : Nat), .int .u64 (m.t : Nat), .int .u64 (m.x : Nat), .int .u64 (m.u : Nat), .int .u64 (m.c : Nat), .bool m.ok, .slice a2 m.l.length cp2, .int .u64 (m.s.i : Nat), .int .u64 (m.s.t : Nat), .slice sa m.s.ks.length sc, .string m.s.d] : List Value) rfl, h2.only HON.out (by omega), (HB2.out.trans (HBA.out.mono HB2.out.size)).trans (HON.out.below (Nat.le_trans HB2.out.size HBA.out.size) HB2.out.size), hz1, by omega⟩
  have HS5 := Lib.hid (sl_only (HS2.out.keep HBA.out) HON.out HBA.out.size (.inr (Nat.le_refl _)))
  have HI5 := Lib.hid (ints_only (HI2.out.keep HBA.out) HON.out (.inr (Nat.le_refl _)))
  have HZ5 : Hid (w2.heap.size ≤ ((w2.alloc (.cells #[.int .u8 0, .int .u64 0, .int .u64 0, .int .u64 0, .int .u64 0, .bool false, .slice none 0 0, .int .u64 0, .int .u64 0, .slice none 0 0, .string ⟨#[]⟩] 29)).setCells w2.heap.size 0 ([.int .u8 (m.k : Nat), .int .u64 (m.t : Nat), .int .u64 (m.x : Nat), .int .u64 (m.u : Nat), .int .u64 (m.c : Nat), .bool m.ok, .slice a2 m.l.length cp2, .int .u64 (m.s.i : Nat), .int .u64 (m.s.t : Nat), .slice sa m.s.ks.length sc, .string m.s.d] : List Value)).heap.size) := Nat.le_trans HBA.out.size HON.out.size
  have hth := HN0.out.there 11 rfl
  dsimp only
  refine ‹∀ (a : Act) (w : World), wpList Try.prog _ _ _ a w → _› _ _ ?_
  refine wpList_plain rfl fun K hK => ?_
  go_simp
  refine hK _ _ ?_
  clear hK K
  refine wpList_store_mid rfl 29 (.tmp 5) (.tmp 9) rfl w2.heap.size 0 ([.int .u8 (m.k : Nat), .int .u64 (m.t : Nat), .int .u64 (m.x : Nat), .int .u64 (m.u : Nat), .int .u64 (m.c : Nat), .bool m.ok, .slice a2 m.l.length cp2, .int .u64 (m.s.i : Nat), .int .u64 (m.s.t : Nat), .slice sa m.s.ks.length sc, .string m.s.d] : List Value).toArray rfl rfl hth rfl (all_oneCell_toArray (by intro v hv; simp only [List.mem_cons, List.not_mem_nil, or_false] at hv; rcases hv with rfl | rfl | rfl | rfl | rfl | rfl | rfl | rfl | rfl | rfl | rfl <;> rfl)) ?_
  refine wpList_nil ?_
  rw [show ([.int .u8 (m.k : Nat), .int .u64 (m.t : Nat), .int .u64 (m.x : Nat), .int .u64 (m.u : Nat), .int .u64 (m.c : Nat), .bool m.ok, .slice a2 m.l.length cp2, .int .u64 (m.s.i : Nat), .int .u64 (m.s.t : Nat), .slice sa m.s.ks.length sc, .string m.s.d] : List Value).toArray.toList = ([.int .u8 (m.k : Nat), .int .u64 (m.t : Nat), .int .u64 (m.x : Nat), .int .u64 (m.u : Nat), .int .u64 (m.c : Nat), .bool m.ok, .slice a2 m.l.length cp2, .int .u64 (m.s.i : Nat), .int .u64 (m.s.t : Nat), .slice sa m.s.ks.length sc, .string m.s.d] : List Value) from rfl]
  clear hth HN0 HBA HON HS2 HI2 HT2 HR2 HB2
  generalize (w2.alloc (.cells #[.int .u8 0, .int .u64 0, .int .u64 0, .int .u64 0, .int .u64 0, .bool false, .slice none 0 0, .int .u64 0, .int .u64 0, .slice none 0 0, .string ⟨#[]⟩] 29)).setCells w2.heap.size 0 ([.int .u8 (m.k : Nat), .int .u64 (m.t : Nat), .int .u64 (m.x : Nat), .int .u64 (m.u : Nat), .int .u64 (m.c : Nat), .bool m.ok, .slice a2 m.l.length cp2, .int .u64 (m.s.i : Nat), .int .u64 (m.s.t : Nat), .slice sa m.s.ks.length sc, .string m.s.d] : List Value) = X5 at *
  generalize w2.heap.size = E at *
  go_wp2_with fail
  refine (HDN.out g _ HW5.out.tk).mono ?_
  rintro e w5 ⟨rfl, rfl⟩
  clear HDN
  generalize hq : (!b1 && L1.isEmpty) = q at *
  clear hq
  have hthR := HW5.out.rb.there 11 rfl
  cases q
  · have HF : Hid (ok = false) := HOK.out
    clear HOK HGD HS5 HI5
    go_upto_region 4 with fail
    refine wp_region_list ?_
    refine wpList_plain rfl fun K hK => ?_
    go_simp
    refine hK _ _ ?_
    clear hK K
    refine wpList_store_mid rfl 29 (.tmp 2) (.tmp 18) rfl w.heap.size 0 ([.int .u8 0, .int .u64 0, .int .u64 0, .int .u64 0, .int .u64 0, .bool false, .slice none 0 0, .int .u64 0, .int .u64 0, .slice none 0 0, .string ⟨#[]⟩] : List Value).toArray rfl rfl hthR rfl (all_oneCell_toArray (by intro v hv; simp only [List.mem_cons, List.not_mem_nil, or_false] at hv; rcases hv with rfl | rfl | rfl | rfl | rfl | rfl | rfl | rfl | rfl | rfl | rfl <;> rfl)) ?_
    refine wpList_plain rfl fun K hK => ?_
    go_simp
    refine hK _ _ ?_
    clear hK K
    have HA := Lib.hid (HW5.out.all ([.int .u8 0, .int .u64 0, .int .u64 0, .int .u64 0, .int .u64 0, .bool false, .slice none 0 0, .int .u64 0, .int .u64 0, .slice none 0 0, .string ⟨#[]⟩] : List Value) rfl)
    refine wpList_nil ?_
    try rw [show ([.int .u8 0, .int .u64 0, .int .u64 0, .int .u64 0, .int .u64 0, .bool false, .slice none 0 0, .int .u64 0, .int .u64 0, .slice none 0 0, .string ⟨#[]⟩] : List Value).toArray.toList = ([.int .u8 0, .int .u64 0, .int .u64 0, .int .u64 0, .int .u64 0, .bool false, .slice none 0 0, .int .u64 0, .int .u64 0, .slice none 0 0, .string ⟨#[]⟩] : List Value) from rfl]
    generalize X5.setCells w.heap.size 0 ([.int .u8 0, .int .u64 0, .int .u64 0, .int .u64 0, .int .u64 0, .bool false, .slice none 0 0, .int .u64 0, .int .u64 0, .slice none 0 0, .string ⟨#[]⟩] : List Value) = W9 at *
    go_wp2
    refine bodyPost_bx2 rfl w.heap.size ([.int .u8 0, .int .u64 0, .int .u64 0, .int .u64 0, .int .u64 0, .bool false, .slice none 0 0, .int .u64 0, .int .u64 0, .slice none 0 0, .string ⟨#[]⟩] : List Value) _ rfl rfl ?_ Try.underlying29 rfl ?_ ?_
    case refine_1 => exact HA.out.1
    case refine_2 => rfl
    case refine_3 => exact ⟨HBAD.out HF.out _, HA.out.2.1⟩
  · have HCK := Lib.hid (msg_check m a2 cp2 (.slice sa m.s.ks.length sc) X5 (HS5.out.more HZ5.out (Nat.le_refl _)) (HI5.out.more HZ5.out (Nat.le_refl _)))
    unfold mgV at HCK
    have c0 : X5.cell? ⟨E, 0, none⟩ = some (.int .u8 (m.k : Nat)) := HW5.out.bx.cell 0
    have c1 : X5.cell? ⟨E, 1, none⟩ = some (.int .u64 (m.t : Nat)) := HW5.out.bx.cell 1
    have c2 : X5.cell? ⟨E, 2, none⟩ = some (.int .u64 (m.x : Nat)) := HW5.out.bx.cell 2
    have c3 : X5.cell? ⟨E, 3, none⟩ = some (.int .u64 (m.u : Nat)) := HW5.out.bx.cell 3
    have c4 : X5.cell? ⟨E, 4, none⟩ = some (.int .u64 (m.c : Nat)) := HW5.out.bx.cell 4
    have c5 : X5.cell? ⟨E, 5, none⟩ = some (.bool m.ok) := HW5.out.bx.cell 5
    have c6 : X5.cell? ⟨E, 6, none⟩ = some (.slice a2 m.l.length cp2) := HW5.out.bx.cell 6
    have c7 : X5.cell? ⟨E, 7, none⟩ = some (.int .u64 (m.s.i : Nat)) := HW5.out.bx.cell 7
    have c8 : X5.cell? ⟨E, 8, none⟩ = some (.int .u64 (m.s.t : Nat)) := HW5.out.bx.cell 8
    have c9 : X5.cell? ⟨E, 9, none⟩ = some (.slice sa m.s.ks.length sc) := HW5.out.bx.cell 9
    have c10 : X5.cell? ⟨E, 10, none⟩ = some (.string m.s.d) := HW5.out.bx.cell 10
    cases hk : okM m
    · have HF : Hid (ok = false) := by show _ = _; rw [HOK.out, hk]; rfl
      rw [erM_f hk] at HCK
      clear hk HOK HGD
      go_wp2_with fail
      refine HCK.out.mono ?_
      rintro e w6 ⟨rfl, hb⟩
      have HW6 := Lib.hid (HW5.out.below hb)
      have hthR6 := HW6.out.rb.there 11 rfl
      clear hb hthR c0 c1 c2 c3 c4 c5 c6 c7 c8 c9 c10 HS5 HI5
      go_upto_region 4 with fail
      refine wp_region_list ?_
      refine wpList_plain rfl fun K hK => ?_
      go_simp
      refine hK _ _ ?_
      clear hK K
      refine wpList_store_mid rfl 29 (.tmp 2) (.tmp 18) rfl w.heap.size 0 ([.int .u8 0, .int .u64 0, .int .u64 0, .int .u64 0, .int .u64 0, .bool false, .slice none 0 0, .int .u64 0, .int .u64 0, .slice none 0 0, .string ⟨#[]⟩] : List Value).toArray rfl rfl hthR6 rfl (all_oneCell_toArray (by intro v hv; simp only [List.mem_cons, List.not_mem_nil, or_false] at hv; rcases hv with rfl | rfl | rfl | rfl | rfl | rfl | rfl | rfl | rfl | rfl | rfl <;> rfl)) ?_
      refine wpList_plain rfl fun K hK => ?_
      go_simp
      refine hK _ _ ?_
      clear hK K
      have HA := Lib.hid (HW6.out.all ([.int .u8 0, .int .u64 0, .int .u64 0, .int .u64 0, .int .u64 0, .bool false, .slice none 0 0, .int .u64 0, .int .u64 0, .slice none 0 0, .string ⟨#[]⟩] : List Value) rfl)
      refine wpList_nil ?_
      try rw [show ([.int .u8 0, .int .u64 0, .int .u64 0, .int .u64 0, .int .u64 0, .bool false, .slice none 0 0, .int .u64 0, .int .u64 0, .slice none 0 0, .string ⟨#[]⟩] : List Value).toArray.toList = ([.int .u8 0, .int .u64 0, .int .u64 0, .int .u64 0, .int .u64 0, .bool false, .slice none 0 0, .int .u64 0, .int .u64 0, .slice none 0 0, .string ⟨#[]⟩] : List Value) from rfl]
      generalize w6.setCells w.heap.size 0 ([.int .u8 0, .int .u64 0, .int .u64 0, .int .u64 0, .int .u64 0, .bool false, .slice none 0 0, .int .u64 0, .int .u64 0, .slice none 0 0, .string ⟨#[]⟩] : List Value) = W9 at *
      go_wp2
      refine bodyPost_bx2 rfl w.heap.size ([.int .u8 0, .int .u64 0, .int .u64 0, .int .u64 0, .int .u64 0, .bool false, .slice none 0 0, .int .u64 0, .int .u64 0, .slice none 0 0, .string ⟨#[]⟩] : List Value) _ rfl rfl ?_ Try.underlying29 rfl ?_ ?_
      case refine_1 => exact HA.out.1
      case refine_2 => rfl
      case refine_3 => exact ⟨HBAD.out HF.out _, HA.out.2.1⟩
    · have HT : Hid (ok = true) := by show _ = _; rw [HOK.out, hk]; rfl
      rw [erM_t hk] at HCK
      clear hk HOK HBAD
      go_wp2_with fail
      refine HCK.out.mono ?_
      rintro e w6 ⟨rfl, hb⟩
      have HW6 := Lib.hid (HW5.out.below hb)
      have HS6 := Lib.hid ((HS5.out.keep (hb.mono HZ5.out)))
      have HI6 := Lib.hid ((HI5.out.keep (hb.mono HZ5.out)))
      have HZ6 : Hid (E ≤ w6.heap.size) := Nat.le_trans HZ5.out hb.size
      have hthR6 := HW6.out.rb.there 11 rfl
      have hrg := HW6.out.bx.range 0
      clear hb hthR c0 c1 c2 c3 c4 c5 c6 c7 c8 c9 c10
      go_upto_region 5 with fail
      refine wp_region_list ?_
      refine wpList_load_mid rfl 29 (.tmp 5) rfl E 0 rfl _ _ hrg Try.underlying29 rfl rfl ?_
      refine wpList_store_mid rfl 29 (.tmp 2) (.tmp 19) rfl w.heap.size 0 ([.int .u8 (m.k : Nat), .int .u64 (m.t : Nat), .int .u64 (m.x : Nat), .int .u64 (m.u : Nat), .int .u64 (m.c : Nat), .bool m.ok, .slice a2 m.l.length cp2, .int .u64 (m.s.i : Nat), .int .u64 (m.s.t : Nat), .slice sa m.s.ks.length sc, .string m.s.d] : List Value).toArray rfl rfl hthR6 rfl (all_oneCell_toArray (by intro v hv; simp only [List.mem_cons, List.not_mem_nil, or_false] at hv; rcases hv with rfl | rfl | rfl | rfl | rfl | rfl | rfl | rfl | rfl | rfl | rfl <;> rfl)) ?_
      refine wpList_plain rfl fun K hK => ?_
      go_simp
      refine hK _ _ ?_
      clear hK K
      have HA := Lib.hid (HW6.out.all ([.int .u8 (m.k : Nat), .int .u64 (m.t : Nat), .int .u64 (m.x : Nat), .int .u64 (m.u : Nat), .int .u64 (m.c : Nat), .bool m.ok, .slice a2 m.l.length cp2, .int .u64 (m.s.i : Nat), .int .u64 (m.s.t : Nat), .slice sa m.s.ks.length sc, .string m.s.d] : List Value) rfl)
      have HS7 := Lib.hid (sl_only HS6.out HA.out.2.2 HZ6.out (.inl (by omega)))
      have HI7 := Lib.hid (ints_only HI6.out HA.out.2.2 (.inl (by omega)))
      have HZ7 : Hid (E ≤ (w6.setCells w.heap.size 0 ([.int .u8 (m.k : Nat), .int .u64 (m.t : Nat), .int .u64 (m.x : Nat), .int .u64 (m.u : Nat), .int .u64 (m.c : Nat), .bool m.ok, .slice a2 m.l.length cp2, .int .u64 (m.s.i : Nat), .int .u64 (m.s.t : Nat), .slice sa m.s.ks.length sc, .string m.s.d] : List Value)).heap.size) := Nat.le_trans HZ6.out HA.out.2.2.size
      refine wpList_nil ?_
      try rw [show ([.int .u8 (m.k : Nat), .int .u64 (m.t : Nat), .int .u64 (m.x : Nat), .int .u64 (m.u : Nat), .int .u64 (m.c : Nat), .bool m.ok, .slice a2 m.l.length cp2, .int .u64 (m.s.i : Nat), .int .u64 (m.s.t : Nat), .slice sa m.s.ks.length sc, .string m.s.d] : List Value).toArray.toList = ([.int .u8 (m.k : Nat), .int .u64 (m.t : Nat), .int .u64 (m.x : Nat), .int .u64 (m.u : Nat), .int .u64 (m.c : Nat), .bool m.ok, .slice a2 m.l.length cp2, .int .u64 (m.s.i : Nat), .int .u64 (m.s.t : Nat), .slice sa m.s.ks.length sc, .string m.s.d] : List Value) from rfl]
      generalize w6.setCells w.heap.size 0 ([.int .u8 (m.k : Nat), .int .u64 (m.t : Nat), .int .u64 (m.x : Nat), .int .u64 (m.u : Nat), .int .u64 (m.c : Nat), .bool m.ok, .slice a2 m.l.length cp2, .int .u64 (m.s.i : Nat), .int .u64 (m.s.t : Nat), .slice sa m.s.ks.length sc, .string m.s.d] : List Value) = W9 at *
      go_wp2
      refine bodyPost_bx2 rfl w.heap.size ([.int .u8 (m.k : Nat), .int .u64 (m.t : Nat), .int .u64 (m.x : Nat), .int .u64 (m.u : Nat), .int .u64 (m.c : Nat), .bool m.ok, .slice a2 m.l.length cp2, .int .u64 (m.s.i : Nat), .int .u64 (m.s.t : Nat), .slice sa m.s.ks.length sc, .string m.s.d] : List Value) _ rfl rfl ?_ Try.underlying29 rfl ?_ ?_
      case refine_1 => exact HA.out.1
      case refine_2 => rfl
      case refine_3 => exact ⟨HGD.out m HT.out rfl _ _ _ _ ((HS7.out.more HZ7.out (by omega))) ((HI7.out.more HZ7.out (by omega))), HA.out.2.1⟩
end Hd
end Go.Proofs.Ytlkdjnnlbccjdaa
