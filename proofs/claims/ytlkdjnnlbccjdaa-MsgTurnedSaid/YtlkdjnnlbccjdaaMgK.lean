/-
  Merged: MsgMk, MsgMk2, MsgEnc.
-/
import Derived.Test.YtlkdjnnlbccjdaaMgC
import Derived.Deep.RegionHeld3
import Derived.Test.YtlkdjnnlbccjdaaPackFrame
/-
  A MESSAGE's PARTS are made: a flag, an entry, a snapshot.
-/
namespace Go.Proofs.Ytlkdjnnlbccjdaa
open Go.RowKit
namespace Hd
open PM
set_option linter.unusedVariables false
theorem fits_msg : Fits 48 := ⟨by kernel_rfl, by decide⟩
def okN (ok : Bool) : Nat := if ok = true then 1 else 0
set_option maxHeartbeats 1000000 in
theorem mk_yes (B g : Nat) (l : List UInt8) (ok : Bool) (w : World) (h : Mk w B g l) (hlen : l.length ≤ 90000000000000) (hBw : B ≤ w.heap.size) :
    Calls Try.prog 36 #[.pointer (some ⟨g, 0, none⟩), .bool ok] w fun e w' => e = .returned (.tuple #[]) ∧ Mk w' B g (l ++ num (okN ok)) ∧ Fr B g w w' := by
  have H1 : Hid (Calls Try.prog 35 #[.pointer (some ⟨g, 0, none⟩), .int .u64 1] w fun e w' => e = .returned (.tuple #[]) ∧ Mk w' B g (l ++ num 1) ∧ Fr B g w w') := mk_number B g l 1 w h (by omega) (by omega) hBw
  have H0 : Hid (Calls Try.prog 35 #[.pointer (some ⟨g, 0, none⟩), .int .u64 0] w fun e w' => e = .returned (.tuple #[]) ∧ Mk w' B g (l ++ num 0) ∧ Fr B g w w') := mk_number B g l 0 w h (by omega) (by omega) hBw
  clear h hlen hBw
  cases ok
  · show Calls _ _ _ _ fun e w' => e = .returned (.tuple #[]) ∧ Mk w' B g (l ++ num 0) ∧ Fr B g w w'
    generalize num 0 = q at *
    go_enter Try.func36, Try.ntmps36
    go_wp2_with (go_at_call 35; go_loud ((with_reducible refine H0.out.mono ?_); rintro e w1 ⟨rfl, hm, hf⟩; have HM := Lib.hid hm; have HF := Lib.hid hf; clear hm hf))
    go_wp2
    go_end0
    exact ⟨rfl, HM.out, HF.out⟩
  · show Calls _ _ _ _ fun e w' => e = .returned (.tuple #[]) ∧ Mk w' B g (l ++ num 1) ∧ Fr B g w w'
    generalize num 1 = q at *
    go_enter Try.func36, Try.ntmps36
    go_wp2_with (go_at_call 35; go_loud ((with_reducible refine H1.out.mono ?_); rintro e w1 ⟨rfl, hm, hf⟩; have HM := Lib.hid hm; have HF := Lib.hid hf; clear hm hf))
    go_wp2
    go_end0
    exact ⟨rfl, HM.out, HF.out⟩
theorem weS_len (e : Lo.En) (hi : e.i < 2 ^ 64) (ht : e.t < 2 ^ 64) : (weS e).length ≤ 4300 := by
  unfold weS
  split
  · rename_i h; exact weB_len h hi ht
  · simp
set_option maxHeartbeats 2000000 in
theorem mk_entry (B g : Nat) (l : List UInt8) (e : Lo.En) (u : Value) (w : World) {A : Nat} (h : Mk w B g l) (hu : Lo.IntsR w A w.heap.size u e.ks) (hi : e.i < 2 ^ 64) (ht : e.t < 2 ^ 64) (hlen : l.length ≤ 90000000000000) (hBw : B ≤ w.heap.size) :
    Calls Try.prog 39 #[.pointer (some ⟨g, 0, none⟩), Lo.enV e u] w fun en w' => en = .returned (.tuple #[]) ∧ Mk w' B g (l ++ txt (weS e)) ∧ Fr B g w w' := by
  have hb1 : Below w.heap.size w (w.alloc (.cells #[.int .u64 (e.i : Nat), .int .u64 (e.t : Nat), .int .u8 (e.k : Nat), .string e.d, u] 73)) := (Below.refl _ w).alloc (Nat.le_refl _) _
  have HW := Lib.hid (wal_encode e u _ ((hu.keep hb1).more hb1.size (Nat.le_refl _)) hi ht)
  have hl := weS_len e hi ht
  have HT : Hid (∀ z, Mk z B g l → B ≤ z.heap.size → Calls Try.prog 76 #[.pointer (some ⟨g, 0, none⟩), .string (bs (weS e))] z fun en w' => en = .returned (.tuple #[]) ∧ Mk w' B g (l ++ txt (weS e)) ∧ Fr B g z w') := fun z hz hB => by
    have := mk_text B g l (bs (weS e)) z hz (by rw [bs_size]; omega) (by omega) hB
    rw [bs_data] at this
    exact this
  have HM := Lib.hid h
  have HB1 := Lib.hid hb1
  have HBw := Lib.hid hBw
  unfold Lo.enV at *
  obtain ⟨ua, uc, rfl⟩ := hu.slice
  clear h hb1 hBw hl hu hlen hi ht
  generalize weS e = q at *
  generalize weE e = qe at *
  generalize txt q = q2 at *
  obtain ⟨i, t, k, d, ks⟩ := e
  simp only at HW HB1 ⊢
  go_enter Try.func39, Try.ntmps39
  go_wp2_with (go_at_call 75; go_loud ((with_reducible refine HW.out.mono ?_); rintro e w1 ⟨rfl, hb⟩; have HB2 := Lib.hid (HB1.out.trans (hb.mono HB1.out.size)); clear hb))
  go_wp2_with (go_at_call 76; go_loud ((with_reducible refine (HT.out _ (HM.out.below HB2.out) (Nat.le_trans HBw.out HB2.out.size)).mono ?_); rintro e w2 ⟨rfl, hm, hf⟩; have HM2 := Lib.hid hm; have HF := Lib.hid ((Fr.of_below HB2.out HBw.out).trans hf); clear hm hf))
  go_wp2
  go_end0
  exact ⟨rfl, HM2.out, HF.out⟩
theorem enS_len (i t : Nat) (ks : List Int) (d : ByteArray) (hi : i < 2 ^ 64) (ht : t < 2 ^ 64) : (enS i t ks d).length ≤ 64700 := by
  unfold enS
  split
  · rename_i h
    obtain ⟨h7, h8, hd⟩ := chk_ms i t ks d h
    have l1 := num_le9 i hi
    have l2 := num_le9 t ht
    have l3 := mbs_len (ks.map Int.toNat) (by rw [List.length_map]; omega) (by
      intro m hm
      obtain ⟨k, hk, rfl⟩ := List.mem_map.1 hm
      have := h7 k hk
      omega)
    have l4 : (txt d.data.toList).length ≤ 64521 := by
      unfold txt
      rw [List.length_append]
      have := num_le9 d.data.toList.length (by show d.size < _; omega)
      have e : d.data.toList.length = d.size := rfl
      omega
    rw [List.length_map] at l3
    unfold snB
    simp only [List.length_append]
    omega
  · simp
set_option maxHeartbeats 2000000 in
theorem mk_snap (B g : Nat) (l : List UInt8) (i t : Nat) (ks : List Int) (d : ByteArray) (v : Value) (w : World) (h : Mk w B g l) (hv : Dk.Ints w w.heap.size v ks) (hi : i < 2 ^ 64) (ht : t < 2 ^ 64) (hlen : l.length ≤ 90000000000000) (hBw : B ≤ w.heap.size) :
    Calls Try.prog 40 #[.pointer (some ⟨g, 0, none⟩), .agg #[.int .u64 (i : Nat), .int .u64 (t : Nat), v, .string d]] w fun en w' => en = .returned (.tuple #[]) ∧ Mk w' B g (l ++ txt (enS i t ks d)) ∧ Fr B g w w' := by
  have hb1 : Below w.heap.size w (w.alloc (.cells #[.int .u64 (i : Nat), .int .u64 (t : Nat), v, .string d] 27)) := (Below.refl _ w).alloc (Nat.le_refl _) _
  have HW0 := snap_encode i t v ks d _ (hv.on hb1) hi ht
  unfold EncIs at HW0
  have HW := Lib.hid HW0
  have hl := enS_len i t ks d hi ht
  have HT : Hid (∀ z, Mk z B g l → B ≤ z.heap.size → Calls Try.prog 76 #[.pointer (some ⟨g, 0, none⟩), .string (bs (enS i t ks d))] z fun en w' => en = .returned (.tuple #[]) ∧ Mk w' B g (l ++ txt (enS i t ks d)) ∧ Fr B g z w') := fun z hz hB => by
    have := mk_text B g l (bs (enS i t ks d)) z hz (by rw [bs_size]; omega) (by omega) hB
    rw [bs_data] at this
    exact this
  have HM := Lib.hid h
  have HB1 := Lib.hid hb1
  have HBw := Lib.hid hBw
  obtain ⟨ua, uc, rfl, -⟩ := hv
  clear h hb1 hBw hl hlen hi ht HW0
  generalize enS i t ks d = q at *
  generalize chkS i t ks d = qe at *
  generalize txt q = q2 at *
  go_enter Try.func40, Try.ntmps40
  go_wp2_with (go_at_call 77; go_loud ((with_reducible refine HW.out.mono ?_); rintro e w1 ⟨rfl, hb⟩; have HB2 := Lib.hid (HB1.out.trans (hb.mono HB1.out.size)); clear hb))
  go_wp2_with (go_at_call 76; go_loud ((with_reducible refine (HT.out _ (HM.out.below HB2.out) (Nat.le_trans HBw.out HB2.out.size)).mono ?_); rintro e w2 ⟨rfl, hm, hf⟩; have HM2 := Lib.hid hm; have HF := Lib.hid ((Fr.of_below HB2.out HBw.out).trans hf); clear hm hf))
  go_wp2
  go_end0
  exact ⟨rfl, HM2.out, HF.out⟩
end Hd
end Go.Proofs.Ytlkdjnnlbccjdaa

/-
  A MESSAGE's BYTES are made: (*msg.maker).msg.
-/
namespace Go.Proofs.Ytlkdjnnlbccjdaa
open Go.RowKit
namespace Hd
open PM
set_option linter.unusedVariables false
/-- Where the making stands: the maker, the box of its pointer, the box of the message. -/
structure Mq (w0 : World) (B g : Nat) (cs : List Value) (l : List UInt8) (x : World) : Prop where
  m : Mk x B g l
  fr : Fr B g w0 x
  pb : x.heap[w0.heap.size]? = some (.cells #[.pointer (some ⟨g, 0, none⟩)] 75 (0, 0))
  bx : x.heap[w0.heap.size + 1]? = some (.cells cs.toArray 29 (0, 0))
  le : B ≤ x.heap.size
  lt : g < w0.heap.size
theorem Mq.made {w : World} {B g : Nat} {l : List UInt8} (cs : List Value) (h : Mk w B g l) (hB : B ≤ w.heap.size) :
    Mq w B g cs l ((w.alloc (.cells #[.pointer (some ⟨g, 0, none⟩)] 75)).alloc (.cells cs.toArray 29)) := by
  have h1 : Below w.heap.size w (w.alloc (.cells #[.pointer (some ⟨g, 0, none⟩)] 75)) := (Below.refl _ _).alloc (Nat.le_refl _) _
  have h2 : Below w.heap.size w ((w.alloc (.cells #[.pointer (some ⟨g, 0, none⟩)] 75)).alloc (.cells cs.toArray 29)) := h1.alloc h1.size _
  refine ⟨h.below h2, Fr.of_below h2 hB, ?_, ?_, Nat.le_trans hB h2.size, h.lt⟩
  · exact (heap_alloc_old _ _ (by simp)).trans (heap_alloc_new w _)
  · have := heap_alloc_new (w.alloc (.cells #[.pointer (some ⟨g, 0, none⟩)] 75)) (.cells cs.toArray 29)
    rw [World.size_alloc] at this
    exact this
theorem Mq.drew {w0 x : World} {B g : Nat} {cs : List Value} {l : List UInt8} (h : Mq w0 B g cs l x) : Mq w0 B g cs l x.drew := by
  have hb : Below x.heap.size x x.drew := (Below.refl _ _).drew
  exact ⟨h.m.below hb, h.fr.trans (Fr.of_below hb h.le), h.pb, h.bx, h.le, h.lt⟩
theorem Mq.go {w0 x x' : World} {B g : Nat} {cs : List Value} {l l' : List UInt8} (h : Mq w0 B g cs l x) (hm : Mk x' B g l') (hf : Fr B g x x') : Mq w0 B g cs l' x' :=
  ⟨hm, h.fr.trans hf, hf.keep h.pb (by have := h.lt; omega) (by decide), hf.keep h.bx (by have := h.lt; omega) (by decide), Nat.le_trans h.le hf.1.size, h.lt⟩
theorem Mq.bl {w0 x : World} {B g : Nat} {cs : List Value} {l : List UInt8} (h : Mq w0 B g cs l x) : Below B w0 x := h.fr.1
theorem Mq.p {w0 x : World} {B g : Nat} {cs : List Value} {l : List UInt8} (h : Mq w0 B g cs l x) : x.cell? ⟨w0.heap.size, 0, none⟩ = some (.pointer (some ⟨g, 0, none⟩)) := by
  rw [cell_of_row _ _ 0 _ _ (0, 0) h.pb]; rfl
theorem Mq.c {w0 x : World} {B g : Nat} {cs : List Value} {l : List UInt8} (h : Mq w0 B g cs l x) (i : Nat) : x.cell? ⟨w0.heap.size + 1, i, none⟩ = cs[i]? := by
  rw [cell_of_row _ _ i _ _ (0, 0) h.bx]; simp
def enB2 (e : Lo.En) : List UInt8 := txt (weS e)
/-- The bytes of entries. -/
def esB (l : List Lo.En) : List UInt8 := num l.length ++ l.flatMap enB2
def mgT (m : Mg) : List UInt8 := if m.k = 1 then num m.x ++ num m.u else if m.k = 2 then num (okN m.ok) else if m.k = 3 then num m.x ++ num m.u ++ num m.c ++ esB m.l else if m.k = 4 then num (okN m.ok) ++ num m.x else if m.k = 5 then txt (enS m.s.i m.s.t m.s.ks m.s.d) else []
/-- The bytes of a message. -/
def mgB (m : Mg) : List UInt8 := num m.k ++ num m.t ++ mgT m
theorem enB2_len (e : Lo.En) (hi : e.i < 2 ^ 64) (ht : e.t < 2 ^ 64) : (enB2 e).length ≤ 4400 := by
  have h := weS_len e hi ht
  unfold enB2 txt
  rw [List.length_append]
  have := num_le9 (weS e).length (by omega)
  omega
theorem esF_len : ∀ (l : List Lo.En), (∀ e ∈ l, e.i < 2 ^ 64 ∧ e.t < 2 ^ 64) → (l.flatMap enB2).length ≤ 4400 * l.length
  | [], _ => by simp
  | e :: r, h => by
    have h1 := enB2_len e (h e (by simp)).1 (h e (by simp)).2
    have h2 := esF_len r (fun x hx => h x (by simp [hx]))
    rw [List.flatMap_cons, List.length_append, List.length_cons]
    omega
set_option maxRecDepth 100000 in
set_option maxHeartbeats 2000000 in
/-- The closure that makes one entry. -/
theorem entry_clo (B g Q i n : Nat) (e : Lo.En) (u : Value) (b off cp : Nat) (l : List UInt8) (x : World) {A : Nat} (hp : x.cell? ⟨Q, 0, none⟩ = some (.pointer (some ⟨g, 0, none⟩))) (hv : x.cell? ⟨Q + 1, 6, none⟩ = some (.slice (some ⟨b, off, none⟩) n cp)) (hi : i < n) (hc : Lo.EntC x A x.heap.size b (off + i * 5) e u)
    (hm : Mk x B g l) (hlen : l.length ≤ 90000000000000) (hBw : B ≤ x.heap.size) :
    Calls Try.prog 38 #[.int .i64 (i : Nat), .pointer (some ⟨Q, 0, none⟩), .pointer (some ⟨Q + 1, 0, none⟩)] x fun en x' => en = .returned (.tuple #[]) ∧ Mk x' B g (l ++ enB2 e) ∧ Fr B g x x' := by
  obtain ⟨c0, c1, c2, c3, c4, iv, i64, t64⟩ := hc
  obtain ⟨ua, uc, rfl⟩ := iv.slice
  have hi1 : (i : Int) < (n : Int) := by omega
  have hd : Below x.heap.size x x.drew := (Below.refl _ _).drew
  have K1 : Hid (Calls Try.prog 39 #[.pointer (some ⟨g, 0, none⟩), .agg #[.int .u64 (e.i : Nat), .int .u64 (e.t : Nat), .int .u8 (e.k : Nat), .string e.d, .slice ua e.ks.length uc]] x.drew fun en w' => en = .returned (.tuple #[]) ∧ Mk w' B g (l ++ enB2 e) ∧ Fr B g x.drew w') :=
    mk_entry B g l e (.slice ua e.ks.length uc) x.drew (hm.below hd) (iv.keep hd) i64 t64 hlen hBw
  have HD := Lib.hid (Fr.of_below (B := B) (g := g) hd hBw)
  clear iv i64 t64 hm hlen hBw hd
  generalize enB2 e = q at *
  obtain ⟨ei, et, ek, ed, es⟩ := e
  simp only at c0 c1 c2 c3 c4 K1
  go_enter Try.func38, Try.ntmps38
  go_wp2
  go_region_with (go_at_call 39; go_loud ((with_reducible refine (K1.out).mono ?_); rintro en w1 ⟨rfl, hm, hf⟩; have HM := Lib.hid hm; have HF := Lib.hid (HD.out.trans hf); clear hm hf))
  all_goals
    go_wp2
    go_end0
    exact ⟨rfl, HM.out, HF.out⟩
set_option maxRecDepth 100000 in
set_option maxHeartbeats 4000000 in
theorem msg_make1 (B g : Nat) (t x u c : Nat) (ok : Bool) (a : Option Addr) (cp : Nat) (l : List Lo.En) (si st : Nat) (sa : Option Addr) (sc : Nat) (sk : List Int) (sd : ByteArray) (w : World) {A : Nat} (h : Mk w B g []) (hBw : B ≤ w.heap.size) (hl : Lo.Sl w A B a cp l) (hv : Dk.Ints w B (.slice sa sk.length sc) sk) (h8 : l.length ≤ 8) (ht : t < 2 ^ 64) (hx : x < 2 ^ 64) (hu : u < 2 ^ 64) (hc : c < 2 ^ 64) (hsi : si < 2 ^ 64) (hst : st < 2 ^ 64) :
    Calls Try.prog 17 #[.pointer (some ⟨g, 0, none⟩), .agg #[.int .u8 1, .int .u64 (t : Nat), .int .u64 (x : Nat), .int .u64 (u : Nat), .int .u64 (c : Nat), .bool ok, .slice a l.length cp, .int .u64 (si : Nat), .int .u64 (st : Nat), .slice sa sk.length sc, .string sd]] w fun e w' => e = .returned (.tuple #[]) ∧ Mk w' B g (num 1 ++ num t ++ num x ++ num u) ∧ Fr B g w w' := by
  have HS0 := Lib.hid (Mq.made [.int .u8 1, .int .u64 (t : Nat), .int .u64 (x : Nat), .int .u64 (u : Nat), .int .u64 (c : Nat), .bool ok, .slice a l.length cp, .int .u64 (si : Nat), .int .u64 (st : Nat), .slice sa sk.length sc, .string sd] h hBw)
  have lok : (num (okN ok)).length ≤ 9 := num_le9 _ (by unfold okN; split <;> omega)
  have lt := num_le9 t ht
  have lx := num_le9 x hx
  have lu := num_le9 u hu
  have lc := num_le9 c hc
  have lk := num_le9 1 (by omega)
  have K0 : Hid (∀ z, Mk z B g ([]) → B ≤ z.heap.size → Calls Try.prog 35 #[.pointer (some ⟨g, 0, none⟩), .int .u64 1] z fun e w' => e = .returned (.tuple #[]) ∧ Mk w' B g ([] ++ num 1) ∧ Fr B g z w') := fun z hz hB => mk_number B g ([]) 1 z hz (by omega) (by simp <;> omega) hB
  have K1 : Hid (∀ z, Mk z B g ([] ++ num 1) → B ≤ z.heap.size → Calls Try.prog 35 #[.pointer (some ⟨g, 0, none⟩), .int .u64 (t : Nat)] z fun e w' => e = .returned (.tuple #[]) ∧ Mk w' B g ([] ++ num 1 ++ num t) ∧ Fr B g z w') := fun z hz hB => mk_number B g ([] ++ num 1) t z hz ht (by simp <;> omega) hB
  have K2 : Hid (∀ z, Mk z B g ([] ++ num 1 ++ num t) → B ≤ z.heap.size → Calls Try.prog 35 #[.pointer (some ⟨g, 0, none⟩), .int .u64 (x : Nat)] z fun e w' => e = .returned (.tuple #[]) ∧ Mk w' B g ([] ++ num 1 ++ num t ++ num x) ∧ Fr B g z w') := fun z hz hB => mk_number B g ([] ++ num 1 ++ num t) x z hz hx (by simp <;> omega) hB
  have K3 : Hid (∀ z, Mk z B g ([] ++ num 1 ++ num t ++ num x) → B ≤ z.heap.size → Calls Try.prog 35 #[.pointer (some ⟨g, 0, none⟩), .int .u64 (u : Nat)] z fun e w' => e = .returned (.tuple #[]) ∧ Mk w' B g ([] ++ num 1 ++ num t ++ num x ++ num u) ∧ Fr B g z w') := fun z hz hB => mk_number B g ([] ++ num 1 ++ num t ++ num x) u z hz hu (by simp <;> omega) hB
  clear h hl hv lok lt lx lu lc lk
  have tkk : IntKind.u64.wrap 1 = 1 := by decide
  go_enter Try.func17, Try.ntmps17
  have cp0 := HS0.out.p
  have c0 := HS0.out.c 0
  simp only [List.getElem?_cons_zero] at c0
  go_wp2
  go_region_held3 (fun z => z.cell? ⟨w.heap.size, 0, none⟩ = some (.pointer (some ⟨g, 0, none⟩)) ∧ z.cell? ⟨w.heap.size + 1, 0, none⟩ = some (.int .u8 1)) (first | assumption | go_keep) ((go_at_call 35; (with_reducible refine (K0.out _ HS0.out.drew.m HS0.out.drew.le).mono ?_); rintro e w1 ⟨rfl, hm, hf⟩; have HS1 := Lib.hid (HS0.out.drew.go hm hf); have cq0 := HS1.out.p; have cq1 : w1.cell? ⟨w.heap.size + 1, 0, none⟩ = some (.int .u8 1) := HS1.out.c 0; have cq2 := And.intro cq0 cq1; clear hm hf cq0 cq1))
  clear cq2
  clear cp0 c0
  have cp0 := HS1.out.p
  have c1 := HS1.out.c 1
  simp only [List.getElem?_cons_succ, List.getElem?_cons_zero] at c1
  go_wp2
  go_region_held3 (fun z => z.cell? ⟨w.heap.size, 0, none⟩ = some (.pointer (some ⟨g, 0, none⟩)) ∧ z.cell? ⟨w.heap.size + 1, 1, none⟩ = some (.int .u64 (t : Nat))) (first | assumption | go_keep) ((go_at_call 35; (with_reducible refine (K1.out _ HS1.out.drew.m HS1.out.drew.le).mono ?_); rintro e w2 ⟨rfl, hm, hf⟩; have HS2 := Lib.hid (HS1.out.drew.go hm hf); have cq0 := HS2.out.p; have cq1 : w2.cell? ⟨w.heap.size + 1, 1, none⟩ = some (.int .u64 (t : Nat)) := HS2.out.c 1; have cq2 := And.intro cq0 cq1; clear hm hf cq0 cq1))
  clear cq2
  clear cp0 c1
  have cp0 := HS2.out.p
  have c0 := HS2.out.c 0
  simp only [List.getElem?_cons_zero] at c0
  have c2 := HS2.out.c 2
  simp only [List.getElem?_cons_succ, List.getElem?_cons_zero] at c2
  go_wp2
  go_region_held3 (fun z => z.cell? ⟨w.heap.size, 0, none⟩ = some (.pointer (some ⟨g, 0, none⟩)) ∧ z.cell? ⟨w.heap.size + 1, 2, none⟩ = some (.int .u64 (x : Nat))) (first | assumption | go_keep) ((go_at_call 35; (with_reducible refine (K2.out _ HS2.out.drew.m HS2.out.drew.le).mono ?_); rintro e w3 ⟨rfl, hm, hf⟩; have HS3 := Lib.hid (HS2.out.drew.go hm hf); have cq0 := HS3.out.p; have cq1 : w3.cell? ⟨w.heap.size + 1, 2, none⟩ = some (.int .u64 (x : Nat)) := HS3.out.c 2; have cq2 := And.intro cq0 cq1; clear hm hf cq0 cq1))
  clear cq2
  clear cp0 c0 c2
  have cp0 := HS3.out.p
  have c3 := HS3.out.c 3
  simp only [List.getElem?_cons_succ, List.getElem?_cons_zero] at c3
  go_wp2
  go_region_held3 (fun z => z.cell? ⟨w.heap.size, 0, none⟩ = some (.pointer (some ⟨g, 0, none⟩)) ∧ z.cell? ⟨w.heap.size + 1, 3, none⟩ = some (.int .u64 (u : Nat))) (first | assumption | go_keep) ((go_at_call 35; (with_reducible refine (K3.out _ HS3.out.drew.m HS3.out.drew.le).mono ?_); rintro e w4 ⟨rfl, hm, hf⟩; have HS4 := Lib.hid (HS3.out.drew.go hm hf); have cq0 := HS4.out.p; have cq1 : w4.cell? ⟨w.heap.size + 1, 3, none⟩ = some (.int .u64 (u : Nat)) := HS4.out.c 3; have cq2 := And.intro cq0 cq1; clear hm hf cq0 cq1))
  clear cq2
  clear cp0 c3
  go_wp2
  go_end0
  exact ⟨rfl, by have h9 := HS4.out.m; simpa only [List.nil_append] using h9, HS4.out.fr⟩
set_option maxRecDepth 100000 in
set_option maxHeartbeats 4000000 in
theorem msg_make2 (B g : Nat) (t x u c : Nat) (ok : Bool) (a : Option Addr) (cp : Nat) (l : List Lo.En) (si st : Nat) (sa : Option Addr) (sc : Nat) (sk : List Int) (sd : ByteArray) (w : World) {A : Nat} (h : Mk w B g []) (hBw : B ≤ w.heap.size) (hl : Lo.Sl w A B a cp l) (hv : Dk.Ints w B (.slice sa sk.length sc) sk) (h8 : l.length ≤ 8) (ht : t < 2 ^ 64) (hx : x < 2 ^ 64) (hu : u < 2 ^ 64) (hc : c < 2 ^ 64) (hsi : si < 2 ^ 64) (hst : st < 2 ^ 64) :
    Calls Try.prog 17 #[.pointer (some ⟨g, 0, none⟩), .agg #[.int .u8 2, .int .u64 (t : Nat), .int .u64 (x : Nat), .int .u64 (u : Nat), .int .u64 (c : Nat), .bool ok, .slice a l.length cp, .int .u64 (si : Nat), .int .u64 (st : Nat), .slice sa sk.length sc, .string sd]] w fun e w' => e = .returned (.tuple #[]) ∧ Mk w' B g (num 2 ++ num t ++ num (okN ok)) ∧ Fr B g w w' := by
  have HS0 := Lib.hid (Mq.made [.int .u8 2, .int .u64 (t : Nat), .int .u64 (x : Nat), .int .u64 (u : Nat), .int .u64 (c : Nat), .bool ok, .slice a l.length cp, .int .u64 (si : Nat), .int .u64 (st : Nat), .slice sa sk.length sc, .string sd] h hBw)
  have lok : (num (okN ok)).length ≤ 9 := num_le9 _ (by unfold okN; split <;> omega)
  have lt := num_le9 t ht
  have lx := num_le9 x hx
  have lu := num_le9 u hu
  have lc := num_le9 c hc
  have lk := num_le9 2 (by omega)
  have K0 : Hid (∀ z, Mk z B g ([]) → B ≤ z.heap.size → Calls Try.prog 35 #[.pointer (some ⟨g, 0, none⟩), .int .u64 2] z fun e w' => e = .returned (.tuple #[]) ∧ Mk w' B g ([] ++ num 2) ∧ Fr B g z w') := fun z hz hB => mk_number B g ([]) 2 z hz (by omega) (by simp <;> omega) hB
  have K1 : Hid (∀ z, Mk z B g ([] ++ num 2) → B ≤ z.heap.size → Calls Try.prog 35 #[.pointer (some ⟨g, 0, none⟩), .int .u64 (t : Nat)] z fun e w' => e = .returned (.tuple #[]) ∧ Mk w' B g ([] ++ num 2 ++ num t) ∧ Fr B g z w') := fun z hz hB => mk_number B g ([] ++ num 2) t z hz ht (by simp <;> omega) hB
  have K2 : Hid (∀ z, Mk z B g ([] ++ num 2 ++ num t) → B ≤ z.heap.size → Calls Try.prog 36 #[.pointer (some ⟨g, 0, none⟩), .bool ok] z fun e w' => e = .returned (.tuple #[]) ∧ Mk w' B g ([] ++ num 2 ++ num t ++ num (okN ok)) ∧ Fr B g z w') := fun z hz hB => mk_yes B g ([] ++ num 2 ++ num t) ok z hz (by simp <;> omega) hB
  clear h hl hv lok lt lx lu lc lk
  have tkk : IntKind.u64.wrap 2 = 2 := by decide
  go_enter Try.func17, Try.ntmps17
  have cp0 := HS0.out.p
  have c0 := HS0.out.c 0
  simp only [List.getElem?_cons_zero] at c0
  go_wp2
  go_region_held3 (fun z => z.cell? ⟨w.heap.size, 0, none⟩ = some (.pointer (some ⟨g, 0, none⟩)) ∧ z.cell? ⟨w.heap.size + 1, 0, none⟩ = some (.int .u8 2)) (first | assumption | go_keep) ((go_at_call 35; (with_reducible refine (K0.out _ HS0.out.drew.m HS0.out.drew.le).mono ?_); rintro e w1 ⟨rfl, hm, hf⟩; have HS1 := Lib.hid (HS0.out.drew.go hm hf); have cq0 := HS1.out.p; have cq1 : w1.cell? ⟨w.heap.size + 1, 0, none⟩ = some (.int .u8 2) := HS1.out.c 0; have cq2 := And.intro cq0 cq1; clear hm hf cq0 cq1))
  clear cq2
  clear cp0 c0
  have cp0 := HS1.out.p
  have c1 := HS1.out.c 1
  simp only [List.getElem?_cons_succ, List.getElem?_cons_zero] at c1
  go_wp2
  go_region_held3 (fun z => z.cell? ⟨w.heap.size, 0, none⟩ = some (.pointer (some ⟨g, 0, none⟩)) ∧ z.cell? ⟨w.heap.size + 1, 1, none⟩ = some (.int .u64 (t : Nat))) (first | assumption | go_keep) ((go_at_call 35; (with_reducible refine (K1.out _ HS1.out.drew.m HS1.out.drew.le).mono ?_); rintro e w2 ⟨rfl, hm, hf⟩; have HS2 := Lib.hid (HS1.out.drew.go hm hf); have cq0 := HS2.out.p; have cq1 : w2.cell? ⟨w.heap.size + 1, 1, none⟩ = some (.int .u64 (t : Nat)) := HS2.out.c 1; have cq2 := And.intro cq0 cq1; clear hm hf cq0 cq1))
  clear cq2
  clear cp0 c1
  have cp0 := HS2.out.p
  have c0 := HS2.out.c 0
  simp only [List.getElem?_cons_zero] at c0
  have c5 := HS2.out.c 5
  simp only [List.getElem?_cons_succ, List.getElem?_cons_zero] at c5
  go_wp2_with (go_at_call 36; go_loud ((with_reducible refine (K2.out _ HS2.out.m HS2.out.le).mono ?_); rintro e w3 ⟨rfl, hm, hf⟩; have HS3 := Lib.hid (HS2.out.go hm hf); clear hm hf))
  clear cp0 c0 c5
  go_wp2
  go_end0
  exact ⟨rfl, by have h9 := HS3.out.m; simpa only [List.nil_append] using h9, HS3.out.fr⟩
set_option maxRecDepth 100000 in
set_option maxHeartbeats 4000000 in
theorem msg_make3 (B g : Nat) (t x u c : Nat) (ok : Bool) (a : Option Addr) (cp : Nat) (l : List Lo.En) (si st : Nat) (sa : Option Addr) (sc : Nat) (sk : List Int) (sd : ByteArray) (w : World) {A : Nat} (h : Mk w B g []) (hBw : B ≤ w.heap.size) (hl : Lo.Sl w A B a cp l) (hv : Dk.Ints w B (.slice sa sk.length sc) sk) (h8 : l.length ≤ 8) (ht : t < 2 ^ 64) (hx : x < 2 ^ 64) (hu : u < 2 ^ 64) (hc : c < 2 ^ 64) (hsi : si < 2 ^ 64) (hst : st < 2 ^ 64) :
    Calls Try.prog 17 #[.pointer (some ⟨g, 0, none⟩), .agg #[.int .u8 3, .int .u64 (t : Nat), .int .u64 (x : Nat), .int .u64 (u : Nat), .int .u64 (c : Nat), .bool ok, .slice a l.length cp, .int .u64 (si : Nat), .int .u64 (st : Nat), .slice sa sk.length sc, .string sd]] w fun e w' => e = .returned (.tuple #[]) ∧ Mk w' B g (num 3 ++ num t ++ num x ++ num u ++ num c ++ esB l) ∧ Fr B g w w' := by
  have HS0 := Lib.hid (Mq.made [.int .u8 3, .int .u64 (t : Nat), .int .u64 (x : Nat), .int .u64 (u : Nat), .int .u64 (c : Nat), .bool ok, .slice a l.length cp, .int .u64 (si : Nat), .int .u64 (st : Nat), .slice sa sk.length sc, .string sd] h hBw)
  have lok : (num (okN ok)).length ≤ 9 := num_le9 _ (by unfold okN; split <;> omega)
  have lt := num_le9 t ht
  have lx := num_le9 x hx
  have lu := num_le9 u hu
  have lc := num_le9 c hc
  have lk := num_le9 3 (by omega)
  have K0 : Hid (∀ z, Mk z B g ([]) → B ≤ z.heap.size → Calls Try.prog 35 #[.pointer (some ⟨g, 0, none⟩), .int .u64 3] z fun e w' => e = .returned (.tuple #[]) ∧ Mk w' B g ([] ++ num 3) ∧ Fr B g z w') := fun z hz hB => mk_number B g ([]) 3 z hz (by omega) (by simp <;> omega) hB
  have K1 : Hid (∀ z, Mk z B g ([] ++ num 3) → B ≤ z.heap.size → Calls Try.prog 35 #[.pointer (some ⟨g, 0, none⟩), .int .u64 (t : Nat)] z fun e w' => e = .returned (.tuple #[]) ∧ Mk w' B g ([] ++ num 3 ++ num t) ∧ Fr B g z w') := fun z hz hB => mk_number B g ([] ++ num 3) t z hz ht (by simp <;> omega) hB
  have K2 : Hid (∀ z, Mk z B g ([] ++ num 3 ++ num t) → B ≤ z.heap.size → Calls Try.prog 35 #[.pointer (some ⟨g, 0, none⟩), .int .u64 (x : Nat)] z fun e w' => e = .returned (.tuple #[]) ∧ Mk w' B g ([] ++ num 3 ++ num t ++ num x) ∧ Fr B g z w') := fun z hz hB => mk_number B g ([] ++ num 3 ++ num t) x z hz hx (by simp <;> omega) hB
  have K3 : Hid (∀ z, Mk z B g ([] ++ num 3 ++ num t ++ num x) → B ≤ z.heap.size → Calls Try.prog 35 #[.pointer (some ⟨g, 0, none⟩), .int .u64 (u : Nat)] z fun e w' => e = .returned (.tuple #[]) ∧ Mk w' B g ([] ++ num 3 ++ num t ++ num x ++ num u) ∧ Fr B g z w') := fun z hz hB => mk_number B g ([] ++ num 3 ++ num t ++ num x) u z hz hu (by simp <;> omega) hB
  have K4 : Hid (∀ z, Mk z B g ([] ++ num 3 ++ num t ++ num x ++ num u) → B ≤ z.heap.size → Calls Try.prog 35 #[.pointer (some ⟨g, 0, none⟩), .int .u64 (c : Nat)] z fun e w' => e = .returned (.tuple #[]) ∧ Mk w' B g ([] ++ num 3 ++ num t ++ num x ++ num u ++ num c) ∧ Fr B g z w') := fun z hz hB => mk_number B g ([] ++ num 3 ++ num t ++ num x ++ num u) c z hz hc (by simp <;> omega) hB
  have hmf : ∀ (fn : Fn) (first cap : Array Value) (w : World), (Instr.makeFunc fn first cap).run Try.prog w = .ok (.func fn first cap) w := fun _ _ _ _ => rfl
  have hlg : ∀ e ∈ l, e.i < 2 ^ 64 ∧ e.t < 2 ^ 64 := by
    intro e he
    obtain ⟨j, hj, rfl⟩ := List.getElem_of_mem he
    obtain ⟨b, off, -, -, -, uu, hcc⟩ := hl.at j hj
    exact ⟨hcc.i64, hcc.t64⟩
  have K5 : Hid (∀ z, Mq w B g [.int .u8 3, .int .u64 (t : Nat), .int .u64 (x : Nat), .int .u64 (u : Nat), .int .u64 (c : Nat), .bool ok, .slice a l.length cp, .int .u64 (si : Nat), .int .u64 (st : Nat), .slice sa sk.length sc, .string sd] ([] ++ num 3 ++ num t ++ num x ++ num u ++ num c) z → Calls Try.prog 37 #[.pointer (some ⟨g, 0, none⟩), .int .i64 (l.length : Nat), .func (.func 38) #[] #[.pointer (some ⟨w.heap.size, 0, none⟩), .pointer (some ⟨w.heap.size + 1, 0, none⟩)]] z fun e w' => e = .returned (.tuple #[]) ∧ Mk w' B g ([] ++ num 3 ++ num t ++ num x ++ num u ++ num c ++ esB l) ∧ Fr B g z w') := by
    intro z hz
    have := mtimes _ (Go.Proofs.enters_of Try.func38 (by kernel_rfl) rfl) (.pointer (some ⟨w.heap.size, 0, none⟩)) (.pointer (some ⟨w.heap.size + 1, 0, none⟩)) B g l.length ([] ++ num 3 ++ num t ++ num x ++ num u ++ num c) (fun i => [] ++ num 3 ++ num t ++ num x ++ num u ++ num c ++ (num l.length ++ (l.take i).flatMap enB2)) (fun y => Fr B g z y) z
      hz.m (by omega) (by simp <;> omega) hz.le (by simp) (fun y y' hy hf => hy.trans hf) (Fr.refl _ _ _) ?_
    · rw [List.take_length] at this
      exact this
    · intro i hi y hy hJ hsz
      have hmq := hz.go hy hJ
      obtain ⟨b, off, rfl, -, hbB, uu, hcc⟩ := (hl.keep hmq.fr.1).at i hi
      have hlen : ([] ++ num 3 ++ num t ++ num x ++ num u ++ num c ++ (num l.length ++ (l.take i).flatMap enB2)).length ≤ 90000000000000 := by
        have h1 := num_le9 l.length (by omega)
        have h2 := esF_len (l.take i) (fun e he => hlg e (List.mem_of_mem_take he))
        have h3 : (l.take i).length ≤ l.length := by rw [List.length_take]; omega
        simp only [List.length_append, List.length_nil] at *
        omega
      have := entry_clo B g w.heap.size i l.length l[i] uu b off cp _ y hmq.p (hmq.c 6) hi (hcc.more hsz (Nat.le_refl _)) hy hlen hsz
      have e1 : [] ++ num 3 ++ num t ++ num x ++ num u ++ num c ++ (num l.length ++ (l.take i).flatMap enB2) ++ enB2 l[i] = [] ++ num 3 ++ num t ++ num x ++ num u ++ num c ++ (num l.length ++ (l.take (i + 1)).flatMap enB2) := by
        rw [List.take_add_one, List.getElem?_eq_getElem hi, List.flatMap_append]
        simp
      rw [e1] at this
      exact this
  clear h hl hv lok lt lx lu lc lk
  clear hlg
  have tkk : IntKind.u64.wrap 3 = 3 := by decide
  go_enter Try.func17, Try.ntmps17
  have cp0 := HS0.out.p
  have c0 := HS0.out.c 0
  simp only [List.getElem?_cons_zero] at c0
  go_wp2
  go_region_held3 (fun z => z.cell? ⟨w.heap.size, 0, none⟩ = some (.pointer (some ⟨g, 0, none⟩)) ∧ z.cell? ⟨w.heap.size + 1, 0, none⟩ = some (.int .u8 3)) (first | assumption | go_keep) ((go_at_call 35; (with_reducible refine (K0.out _ HS0.out.drew.m HS0.out.drew.le).mono ?_); rintro e w1 ⟨rfl, hm, hf⟩; have HS1 := Lib.hid (HS0.out.drew.go hm hf); have cq0 := HS1.out.p; have cq1 : w1.cell? ⟨w.heap.size + 1, 0, none⟩ = some (.int .u8 3) := HS1.out.c 0; have cq2 := And.intro cq0 cq1; clear hm hf cq0 cq1))
  clear cq2
  clear cp0 c0
  have cp0 := HS1.out.p
  have c1 := HS1.out.c 1
  simp only [List.getElem?_cons_succ, List.getElem?_cons_zero] at c1
  go_wp2
  go_region_held3 (fun z => z.cell? ⟨w.heap.size, 0, none⟩ = some (.pointer (some ⟨g, 0, none⟩)) ∧ z.cell? ⟨w.heap.size + 1, 1, none⟩ = some (.int .u64 (t : Nat))) (first | assumption | go_keep) ((go_at_call 35; (with_reducible refine (K1.out _ HS1.out.drew.m HS1.out.drew.le).mono ?_); rintro e w2 ⟨rfl, hm, hf⟩; have HS2 := Lib.hid (HS1.out.drew.go hm hf); have cq0 := HS2.out.p; have cq1 : w2.cell? ⟨w.heap.size + 1, 1, none⟩ = some (.int .u64 (t : Nat)) := HS2.out.c 1; have cq2 := And.intro cq0 cq1; clear hm hf cq0 cq1))
  clear cq2
  clear cp0 c1
  have cp0 := HS2.out.p
  have c0 := HS2.out.c 0
  simp only [List.getElem?_cons_zero] at c0
  have c2 := HS2.out.c 2
  simp only [List.getElem?_cons_succ, List.getElem?_cons_zero] at c2
  go_wp2
  go_region_held3 (fun z => z.cell? ⟨w.heap.size, 0, none⟩ = some (.pointer (some ⟨g, 0, none⟩)) ∧ z.cell? ⟨w.heap.size + 1, 2, none⟩ = some (.int .u64 (x : Nat))) (first | assumption | go_keep) ((go_at_call 35; (with_reducible refine (K2.out _ HS2.out.drew.m HS2.out.drew.le).mono ?_); rintro e w3 ⟨rfl, hm, hf⟩; have HS3 := Lib.hid (HS2.out.drew.go hm hf); have cq0 := HS3.out.p; have cq1 : w3.cell? ⟨w.heap.size + 1, 2, none⟩ = some (.int .u64 (x : Nat)) := HS3.out.c 2; have cq2 := And.intro cq0 cq1; clear hm hf cq0 cq1))
  clear cq2
  clear cp0 c0 c2
  have cp0 := HS3.out.p
  have c3 := HS3.out.c 3
  simp only [List.getElem?_cons_succ, List.getElem?_cons_zero] at c3
  go_wp2
  go_region_held3 (fun z => z.cell? ⟨w.heap.size, 0, none⟩ = some (.pointer (some ⟨g, 0, none⟩)) ∧ z.cell? ⟨w.heap.size + 1, 3, none⟩ = some (.int .u64 (u : Nat))) (first | assumption | go_keep) ((go_at_call 35; (with_reducible refine (K3.out _ HS3.out.drew.m HS3.out.drew.le).mono ?_); rintro e w4 ⟨rfl, hm, hf⟩; have HS4 := Lib.hid (HS3.out.drew.go hm hf); have cq0 := HS4.out.p; have cq1 : w4.cell? ⟨w.heap.size + 1, 3, none⟩ = some (.int .u64 (u : Nat)) := HS4.out.c 3; have cq2 := And.intro cq0 cq1; clear hm hf cq0 cq1))
  clear cq2
  clear cp0 c3
  have cp0 := HS4.out.p
  have c4 := HS4.out.c 4
  simp only [List.getElem?_cons_succ, List.getElem?_cons_zero] at c4
  go_wp2
  go_region_held3 (fun z => z.cell? ⟨w.heap.size, 0, none⟩ = some (.pointer (some ⟨g, 0, none⟩)) ∧ z.cell? ⟨w.heap.size + 1, 4, none⟩ = some (.int .u64 (c : Nat))) (first | assumption | go_keep) ((go_at_call 35; (with_reducible refine (K4.out _ HS4.out.drew.m HS4.out.drew.le).mono ?_); rintro e w5 ⟨rfl, hm, hf⟩; have HS5 := Lib.hid (HS4.out.drew.go hm hf); have cq0 := HS5.out.p; have cq1 : w5.cell? ⟨w.heap.size + 1, 4, none⟩ = some (.int .u64 (c : Nat)) := HS5.out.c 4; have cq2 := And.intro cq0 cq1; clear hm hf cq0 cq1))
  clear cq2
  clear cp0 c4
  have cp0 := HS5.out.p
  have c6 := HS5.out.c 6
  simp only [List.getElem?_cons_succ, List.getElem?_cons_zero] at c6
  go_wp2
  go_region_held3 (fun z => z.cell? ⟨w.heap.size, 0, none⟩ = some (.pointer (some ⟨g, 0, none⟩)) ∧ z.cell? ⟨w.heap.size + 1, 6, none⟩ = some (.slice a l.length cp)) (first | assumption | go_keep) ((go_at_call 37; (with_reducible refine (K5.out _ HS5.out.drew).mono ?_); rintro e w6 ⟨rfl, hm, hf⟩; have HS6 := Lib.hid (HS5.out.drew.go hm hf); have cq0 := HS6.out.p; have cq1 : w6.cell? ⟨w.heap.size + 1, 6, none⟩ = some (.slice a l.length cp) := HS6.out.c 6; have cq2 := And.intro cq0 cq1; clear hm hf cq0 cq1))
  clear cq2
  clear cp0 c6
  go_wp2
  go_end0
  exact ⟨rfl, by have h9 := HS6.out.m; simpa only [List.nil_append] using h9, HS6.out.fr⟩
set_option maxRecDepth 100000 in
set_option maxHeartbeats 4000000 in
theorem msg_make4 (B g : Nat) (t x u c : Nat) (ok : Bool) (a : Option Addr) (cp : Nat) (l : List Lo.En) (si st : Nat) (sa : Option Addr) (sc : Nat) (sk : List Int) (sd : ByteArray) (w : World) {A : Nat} (h : Mk w B g []) (hBw : B ≤ w.heap.size) (hl : Lo.Sl w A B a cp l) (hv : Dk.Ints w B (.slice sa sk.length sc) sk) (h8 : l.length ≤ 8) (ht : t < 2 ^ 64) (hx : x < 2 ^ 64) (hu : u < 2 ^ 64) (hc : c < 2 ^ 64) (hsi : si < 2 ^ 64) (hst : st < 2 ^ 64) :
    Calls Try.prog 17 #[.pointer (some ⟨g, 0, none⟩), .agg #[.int .u8 4, .int .u64 (t : Nat), .int .u64 (x : Nat), .int .u64 (u : Nat), .int .u64 (c : Nat), .bool ok, .slice a l.length cp, .int .u64 (si : Nat), .int .u64 (st : Nat), .slice sa sk.length sc, .string sd]] w fun e w' => e = .returned (.tuple #[]) ∧ Mk w' B g (num 4 ++ num t ++ num (okN ok) ++ num x) ∧ Fr B g w w' := by
  have HS0 := Lib.hid (Mq.made [.int .u8 4, .int .u64 (t : Nat), .int .u64 (x : Nat), .int .u64 (u : Nat), .int .u64 (c : Nat), .bool ok, .slice a l.length cp, .int .u64 (si : Nat), .int .u64 (st : Nat), .slice sa sk.length sc, .string sd] h hBw)
  have lok : (num (okN ok)).length ≤ 9 := num_le9 _ (by unfold okN; split <;> omega)
  have lt := num_le9 t ht
  have lx := num_le9 x hx
  have lu := num_le9 u hu
  have lc := num_le9 c hc
  have lk := num_le9 4 (by omega)
  have K0 : Hid (∀ z, Mk z B g ([]) → B ≤ z.heap.size → Calls Try.prog 35 #[.pointer (some ⟨g, 0, none⟩), .int .u64 4] z fun e w' => e = .returned (.tuple #[]) ∧ Mk w' B g ([] ++ num 4) ∧ Fr B g z w') := fun z hz hB => mk_number B g ([]) 4 z hz (by omega) (by simp <;> omega) hB
  have K1 : Hid (∀ z, Mk z B g ([] ++ num 4) → B ≤ z.heap.size → Calls Try.prog 35 #[.pointer (some ⟨g, 0, none⟩), .int .u64 (t : Nat)] z fun e w' => e = .returned (.tuple #[]) ∧ Mk w' B g ([] ++ num 4 ++ num t) ∧ Fr B g z w') := fun z hz hB => mk_number B g ([] ++ num 4) t z hz ht (by simp <;> omega) hB
  have K2 : Hid (∀ z, Mk z B g ([] ++ num 4 ++ num t) → B ≤ z.heap.size → Calls Try.prog 36 #[.pointer (some ⟨g, 0, none⟩), .bool ok] z fun e w' => e = .returned (.tuple #[]) ∧ Mk w' B g ([] ++ num 4 ++ num t ++ num (okN ok)) ∧ Fr B g z w') := fun z hz hB => mk_yes B g ([] ++ num 4 ++ num t) ok z hz (by simp <;> omega) hB
  have K3 : Hid (∀ z, Mk z B g ([] ++ num 4 ++ num t ++ num (okN ok)) → B ≤ z.heap.size → Calls Try.prog 35 #[.pointer (some ⟨g, 0, none⟩), .int .u64 (x : Nat)] z fun e w' => e = .returned (.tuple #[]) ∧ Mk w' B g ([] ++ num 4 ++ num t ++ num (okN ok) ++ num x) ∧ Fr B g z w') := fun z hz hB => mk_number B g ([] ++ num 4 ++ num t ++ num (okN ok)) x z hz hx (by simp <;> omega) hB
  clear h hl hv lok lt lx lu lc lk
  have tkk : IntKind.u64.wrap 4 = 4 := by decide
  go_enter Try.func17, Try.ntmps17
  have cp0 := HS0.out.p
  have c0 := HS0.out.c 0
  simp only [List.getElem?_cons_zero] at c0
  go_wp2
  go_region_held3 (fun z => z.cell? ⟨w.heap.size, 0, none⟩ = some (.pointer (some ⟨g, 0, none⟩)) ∧ z.cell? ⟨w.heap.size + 1, 0, none⟩ = some (.int .u8 4)) (first | assumption | go_keep) ((go_at_call 35; (with_reducible refine (K0.out _ HS0.out.drew.m HS0.out.drew.le).mono ?_); rintro e w1 ⟨rfl, hm, hf⟩; have HS1 := Lib.hid (HS0.out.drew.go hm hf); have cq0 := HS1.out.p; have cq1 : w1.cell? ⟨w.heap.size + 1, 0, none⟩ = some (.int .u8 4) := HS1.out.c 0; have cq2 := And.intro cq0 cq1; clear hm hf cq0 cq1))
  clear cq2
  clear cp0 c0
  have cp0 := HS1.out.p
  have c1 := HS1.out.c 1
  simp only [List.getElem?_cons_succ, List.getElem?_cons_zero] at c1
  go_wp2
  go_region_held3 (fun z => z.cell? ⟨w.heap.size, 0, none⟩ = some (.pointer (some ⟨g, 0, none⟩)) ∧ z.cell? ⟨w.heap.size + 1, 1, none⟩ = some (.int .u64 (t : Nat))) (first | assumption | go_keep) ((go_at_call 35; (with_reducible refine (K1.out _ HS1.out.drew.m HS1.out.drew.le).mono ?_); rintro e w2 ⟨rfl, hm, hf⟩; have HS2 := Lib.hid (HS1.out.drew.go hm hf); have cq0 := HS2.out.p; have cq1 : w2.cell? ⟨w.heap.size + 1, 1, none⟩ = some (.int .u64 (t : Nat)) := HS2.out.c 1; have cq2 := And.intro cq0 cq1; clear hm hf cq0 cq1))
  clear cq2
  clear cp0 c1
  have cp0 := HS2.out.p
  have c0 := HS2.out.c 0
  simp only [List.getElem?_cons_zero] at c0
  have c5 := HS2.out.c 5
  simp only [List.getElem?_cons_succ, List.getElem?_cons_zero] at c5
  go_wp2_with (go_at_call 36; go_loud ((with_reducible refine (K2.out _ HS2.out.m HS2.out.le).mono ?_); rintro e w3 ⟨rfl, hm, hf⟩; have HS3 := Lib.hid (HS2.out.go hm hf); clear hm hf))
  clear cp0 c0 c5
  have cp0 := HS3.out.p
  have c2 := HS3.out.c 2
  simp only [List.getElem?_cons_succ, List.getElem?_cons_zero] at c2
  go_wp2
  go_region_held3 (fun z => z.cell? ⟨w.heap.size, 0, none⟩ = some (.pointer (some ⟨g, 0, none⟩)) ∧ z.cell? ⟨w.heap.size + 1, 2, none⟩ = some (.int .u64 (x : Nat))) (first | assumption | go_keep) ((go_at_call 35; (with_reducible refine (K3.out _ HS3.out.drew.m HS3.out.drew.le).mono ?_); rintro e w4 ⟨rfl, hm, hf⟩; have HS4 := Lib.hid (HS3.out.drew.go hm hf); have cq0 := HS4.out.p; have cq1 : w4.cell? ⟨w.heap.size + 1, 2, none⟩ = some (.int .u64 (x : Nat)) := HS4.out.c 2; have cq2 := And.intro cq0 cq1; clear hm hf cq0 cq1))
  clear cq2
  clear cp0 c2
  go_wp2
  go_end0
  exact ⟨rfl, by have h9 := HS4.out.m; simpa only [List.nil_append] using h9, HS4.out.fr⟩
set_option maxRecDepth 100000 in
set_option maxHeartbeats 4000000 in
theorem msg_make5 (B g : Nat) (t x u c : Nat) (ok : Bool) (a : Option Addr) (cp : Nat) (l : List Lo.En) (si st : Nat) (sa : Option Addr) (sc : Nat) (sk : List Int) (sd : ByteArray) (w : World) {A : Nat} (h : Mk w B g []) (hBw : B ≤ w.heap.size) (hl : Lo.Sl w A B a cp l) (hv : Dk.Ints w B (.slice sa sk.length sc) sk) (h8 : l.length ≤ 8) (ht : t < 2 ^ 64) (hx : x < 2 ^ 64) (hu : u < 2 ^ 64) (hc : c < 2 ^ 64) (hsi : si < 2 ^ 64) (hst : st < 2 ^ 64) :
    Calls Try.prog 17 #[.pointer (some ⟨g, 0, none⟩), .agg #[.int .u8 5, .int .u64 (t : Nat), .int .u64 (x : Nat), .int .u64 (u : Nat), .int .u64 (c : Nat), .bool ok, .slice a l.length cp, .int .u64 (si : Nat), .int .u64 (st : Nat), .slice sa sk.length sc, .string sd]] w fun e w' => e = .returned (.tuple #[]) ∧ Mk w' B g (num 5 ++ num t ++ txt (enS si st sk sd)) ∧ Fr B g w w' := by
  have HS0 := Lib.hid (Mq.made [.int .u8 5, .int .u64 (t : Nat), .int .u64 (x : Nat), .int .u64 (u : Nat), .int .u64 (c : Nat), .bool ok, .slice a l.length cp, .int .u64 (si : Nat), .int .u64 (st : Nat), .slice sa sk.length sc, .string sd] h hBw)
  have lok : (num (okN ok)).length ≤ 9 := num_le9 _ (by unfold okN; split <;> omega)
  have lt := num_le9 t ht
  have lx := num_le9 x hx
  have lu := num_le9 u hu
  have lc := num_le9 c hc
  have lk := num_le9 5 (by omega)
  have K0 : Hid (∀ z, Mk z B g ([]) → B ≤ z.heap.size → Calls Try.prog 35 #[.pointer (some ⟨g, 0, none⟩), .int .u64 5] z fun e w' => e = .returned (.tuple #[]) ∧ Mk w' B g ([] ++ num 5) ∧ Fr B g z w') := fun z hz hB => mk_number B g ([]) 5 z hz (by omega) (by simp <;> omega) hB
  have K1 : Hid (∀ z, Mk z B g ([] ++ num 5) → B ≤ z.heap.size → Calls Try.prog 35 #[.pointer (some ⟨g, 0, none⟩), .int .u64 (t : Nat)] z fun e w' => e = .returned (.tuple #[]) ∧ Mk w' B g ([] ++ num 5 ++ num t) ∧ Fr B g z w') := fun z hz hB => mk_number B g ([] ++ num 5) t z hz ht (by simp <;> omega) hB
  have K2 : Hid (∀ z, Mk z B g ([] ++ num 5 ++ num t) → Below B w z → B ≤ z.heap.size → Calls Try.prog 40 #[.pointer (some ⟨g, 0, none⟩), .agg #[.int .u64 (si : Nat), .int .u64 (st : Nat), .slice sa sk.length sc, .string sd]] z fun e w' => e = .returned (.tuple #[]) ∧ Mk w' B g ([] ++ num 5 ++ num t ++ txt (enS si st sk sd)) ∧ Fr B g z w') := fun z hz hb hB => mk_snap B g ([] ++ num 5 ++ num t) si st sk sd _ z hz ((hv.keep hb).more hB) hsi hst (by simp <;> omega) hB
  clear h hl hv lok lt lx lu lc lk
  have tkk : IntKind.u64.wrap 5 = 5 := by decide
  go_enter Try.func17, Try.ntmps17
  have cp0 := HS0.out.p
  have c0 := HS0.out.c 0
  simp only [List.getElem?_cons_zero] at c0
  go_wp2
  go_region_held3 (fun z => z.cell? ⟨w.heap.size, 0, none⟩ = some (.pointer (some ⟨g, 0, none⟩)) ∧ z.cell? ⟨w.heap.size + 1, 0, none⟩ = some (.int .u8 5)) (first | assumption | go_keep) ((go_at_call 35; (with_reducible refine (K0.out _ HS0.out.drew.m HS0.out.drew.le).mono ?_); rintro e w1 ⟨rfl, hm, hf⟩; have HS1 := Lib.hid (HS0.out.drew.go hm hf); have cq0 := HS1.out.p; have cq1 : w1.cell? ⟨w.heap.size + 1, 0, none⟩ = some (.int .u8 5) := HS1.out.c 0; have cq2 := And.intro cq0 cq1; clear hm hf cq0 cq1))
  clear cq2
  clear cp0 c0
  have cp0 := HS1.out.p
  have c1 := HS1.out.c 1
  simp only [List.getElem?_cons_succ, List.getElem?_cons_zero] at c1
  go_wp2
  go_region_held3 (fun z => z.cell? ⟨w.heap.size, 0, none⟩ = some (.pointer (some ⟨g, 0, none⟩)) ∧ z.cell? ⟨w.heap.size + 1, 1, none⟩ = some (.int .u64 (t : Nat))) (first | assumption | go_keep) ((go_at_call 35; (with_reducible refine (K1.out _ HS1.out.drew.m HS1.out.drew.le).mono ?_); rintro e w2 ⟨rfl, hm, hf⟩; have HS2 := Lib.hid (HS1.out.drew.go hm hf); have cq0 := HS2.out.p; have cq1 : w2.cell? ⟨w.heap.size + 1, 1, none⟩ = some (.int .u64 (t : Nat)) := HS2.out.c 1; have cq2 := And.intro cq0 cq1; clear hm hf cq0 cq1))
  clear cq2
  clear cp0 c1
  have cp0 := HS2.out.p
  have c0 := HS2.out.c 0
  simp only [List.getElem?_cons_zero] at c0
  have c7 := HS2.out.c 7
  simp only [List.getElem?_cons_succ, List.getElem?_cons_zero] at c7
  have c8 := HS2.out.c 8
  simp only [List.getElem?_cons_succ, List.getElem?_cons_zero] at c8
  have c9 := HS2.out.c 9
  simp only [List.getElem?_cons_succ, List.getElem?_cons_zero] at c9
  have c10 := HS2.out.c 10
  simp only [List.getElem?_cons_succ, List.getElem?_cons_zero] at c10
  go_wp2_with (go_at_call 40; go_loud ((with_reducible refine (K2.out _ HS2.out.m HS2.out.bl HS2.out.le).mono ?_); rintro e w3 ⟨rfl, hm, hf⟩; have HS3 := Lib.hid (HS2.out.go hm hf); clear hm hf))
  clear cp0 c0 c7 c8 c9 c10
  go_wp2
  go_end0
  exact ⟨rfl, by have h9 := HS3.out.m; simpa only [List.nil_append] using h9, HS3.out.fr⟩
end Hd
end Go.Proofs.Ytlkdjnnlbccjdaa

/-
  PACKETS are made: msg.Encode.
-/
namespace Go.Proofs.Ytlkdjnnlbccjdaa
open Go.RowKit
namespace Hd
open PM
set_option linter.unusedVariables false
/-- A snapshot of nothing. -/
def Sn0 (s : Sn) : Prop := s.i = 0 ∧ s.t = 0 ∧ s.ks = [] ∧ s.d = ⟨#[]⟩
theorem isN_iff (s : Sn) : isN s.i s.t s.ks.length s.d = true ↔ Sn0 s := by
  obtain ⟨i, t, ks, d⟩ := s
  unfold isN Sn0
  simp only [Bool.and_eq_true, decide_eq_true_eq, List.isEmpty_iff, List.length_eq_zero_iff]
  have hd : d.toList = [] ↔ d = ⟨#[]⟩ := by
    rw [ByteArray.toList_eq]
    constructor
    · intro h
      have h2 : d.data = #[] := by simpa using h
      cases d; simp only at h2; rw [h2]
    · rintro rfl; rfl
  rw [hd]
  constructor
  · rintro ⟨⟨⟨h1, h2⟩, h3⟩, h4⟩; exact ⟨h1, h2, h3, h4⟩
  · rintro ⟨h1, h2, h3, h4⟩; exact ⟨⟨⟨h1, h2⟩, h3⟩, h4⟩
/-- What a right message is, by its kind. -/
def Rt (m : Mg) : Prop := m.t ≠ 0 ∧ ((m.k = 1 ∧ m.c = 0 ∧ m.ok = false ∧ m.l = [] ∧ Sn0 m.s) ∨ (m.k = 2 ∧ m.x = 0 ∧ m.u = 0 ∧ m.c = 0 ∧ m.l = [] ∧ Sn0 m.s) ∨ (m.k = 3 ∧ m.ok = false ∧ Sn0 m.s ∧ Lo.reB m.x m.l = true) ∨
  (m.k = 4 ∧ m.u = 0 ∧ m.c = 0 ∧ m.l = [] ∧ Sn0 m.s) ∨ (m.k = 5 ∧ m.x = 0 ∧ m.u = 0 ∧ m.c = 0 ∧ m.ok = false ∧ m.l = [] ∧ snOk m.s = true))
theorem okM_iff (m : Mg) : okM m = true ↔ Rt m := by
  have hz := isN_iff m.s
  unfold okM owM Rt
  by_cases ht : m.t = 0
  · rw [if_pos ht]; simp [ht]
  · rw [if_neg ht]
    unfold ownB
    generalize isN m.s.i m.s.t m.s.ks.length m.s.d = z at *
    by_cases h1 : m.k = 1
    · rw [if_pos h1]
      simp only [tailM, h1]
      cases hok : m.ok <;> simp [ht, ← hz, and_assoc]
    · rw [if_neg h1]
      by_cases h2 : m.k = 2
      · rw [if_pos h2]
        simp only [tailM, h2]
        simp [ht, ← hz, and_assoc]
      · rw [if_neg h2]
        by_cases h3 : m.k = 3
        · rw [if_pos h3]
          simp only [tailM, h3]
          cases hok : m.ok <;> simp [ht, ← hz]
        · rw [if_neg h3]
          by_cases h4 : m.k = 4
          · rw [if_pos h4]
            simp only [tailM, h4]
            simp [ht, ← hz, and_assoc]
          · rw [if_neg h4]
            by_cases h5 : m.k = 5
            · rw [if_pos h5]
              simp only [tailM, h5]
              cases hok : m.ok <;> simp [ht, and_assoc]
            · rw [if_neg h5]
              simp [h1, h2, h3, h4, h5]
theorem Rt.kind {m : Mg} (h : Rt m) : m.k = 1 ∨ m.k = 2 ∨ m.k = 3 ∨ m.k = 4 ∨ m.k = 5 := by
  rcases h.2 with h | h | h | h | h
  · exact .inl h.1
  · exact .inr (.inl h.1)
  · exact .inr (.inr (.inl h.1))
  · exact .inr (.inr (.inr (.inl h.1)))
  · exact .inr (.inr (.inr (.inr h.1)))
theorem Rt.few {m : Mg} (h : Rt m) : m.l.length ≤ 8 := by
  have e0 : ∀ {l : List Lo.En}, l = [] → l.length ≤ 8 := by rintro l rfl; simp
  rcases h.2 with h | h | h | h | h
  · exact e0 h.2.2.2.1
  · exact e0 h.2.2.2.2.1
  · have := h.2.2.2
    unfold Lo.reB at this
    simp only [Bool.and_eq_true, decide_eq_true_eq] at this
    exact this.2
  · exact e0 h.2.2.2.1
  · exact e0 h.2.2.2.2.2.1
/-- The numbers of a message fit. -/
structure Lts (m : Mg) : Prop where
  k : m.k < 256
  t : m.t < 2 ^ 64
  x : m.x < 2 ^ 64
  u : m.u < 2 ^ 64
  c : m.c < 2 ^ 64
  si : m.s.i < 2 ^ 64
  st : m.s.t < 2 ^ 64
  l : ∀ e ∈ m.l, e.i < 2 ^ 64 ∧ e.t < 2 ^ 64
theorem mgB_len {m : Mg} (h : Rt m) (hf : Lts m) : (mgB m).length ≤ 65536 := by
  obtain ⟨hk, ht, hx, hu, hc, hsi, hst, hl⟩ := hf
  have h8 := h.few
  have lk := num_le9 m.k (by omega)
  have lt := num_le9 m.t ht
  have lx := num_le9 m.x hx
  have lu := num_le9 m.u hu
  have lc := num_le9 m.c hc
  have lok : (num (okN m.ok)).length ≤ 9 := num_le9 _ (by unfold okN; split <;> omega)
  have les : (esB m.l).length ≤ 35209 := by
    unfold esB
    rw [List.length_append]
    have h1 := num_le9 m.l.length (by omega)
    have h2 := esF_len m.l hl
    omega
  have lsn : (txt (enS m.s.i m.s.t m.s.ks m.s.d)).length ≤ 64709 := by
    unfold txt
    rw [List.length_append]
    have h1 := enS_len m.s.i m.s.t m.s.ks m.s.d hsi hst
    have := num_le9 (enS m.s.i m.s.t m.s.ks m.s.d).length (by omega)
    omega
  unfold mgB mgT
  simp only [List.length_append]
  split
  · simp only [List.length_append]; omega
  · split
    · omega
    · split
      · simp only [List.length_append]; omega
      · split
        · simp only [List.length_append]; omega
        · split
          · omega
          · simp; omega
set_option maxHeartbeats 1000000 in
theorem msg_make (B g : Nat) (m : Mg) (a : Option Addr) (cp : Nat) (v : Value) (w : World) {A : Nat} (h : Mk w B g []) (hBw : B ≤ w.heap.size) (hl : Lo.Sl w A B a cp m.l) (hv : Dk.Ints w B v m.s.ks) (hr : Rt m) (hf : Lts m) :
    Calls Try.prog 17 #[.pointer (some ⟨g, 0, none⟩), mgV m a cp v] w fun e w' => e = .returned (.tuple #[]) ∧ Mk w' B g (mgB m) ∧ Fr B g w w' := by
  have h8 := hr.few
  have hk := hr.kind
  clear hr
  obtain ⟨k, t, x, u, c, ok, l, si, st, sk, sd⟩ := m
  obtain ⟨hk1, ht, hx, hu, hc, hsi, hst, hle⟩ := hf
  obtain ⟨sa, sc, rfl, -⟩ := id hv
  unfold mgV mgB mgT
  simp only at *
  rcases hk with rfl | rfl | rfl | rfl | rfl
  · rw [show ((1 : Nat) : Int) = 1 from rfl]
    have := msg_make1 B g t x u c ok a cp l si st sa sc sk sd w h hBw hl hv h8 ht hx hu hc hsi hst
    simpa only [List.append_assoc, if_true, reduceIte, Nat.reduceEqDiff] using this
  · rw [show ((2 : Nat) : Int) = 2 from rfl]
    have := msg_make2 B g t x u c ok a cp l si st sa sc sk sd w h hBw hl hv h8 ht hx hu hc hsi hst
    simpa only [List.append_assoc, if_true, reduceIte, Nat.reduceEqDiff] using this
  · rw [show ((3 : Nat) : Int) = 3 from rfl]
    have := msg_make3 B g t x u c ok a cp l si st sa sc sk sd w h hBw hl hv h8 ht hx hu hc hsi hst
    simpa only [List.append_assoc, if_true, reduceIte, Nat.reduceEqDiff] using this
  · rw [show ((4 : Nat) : Int) = 4 from rfl]
    have := msg_make4 B g t x u c ok a cp l si st sa sc sk sd w h hBw hl hv h8 ht hx hu hc hsi hst
    simpa only [List.append_assoc, if_true, reduceIte, Nat.reduceEqDiff] using this
  · rw [show ((5 : Nat) : Int) = 5 from rfl]
    have := msg_make5 B g t x u c ok a cp l si st sa sc sk sd w h hBw hl hv h8 ht hx hu hc hsi hst
    simpa only [List.append_assoc, if_true, reduceIte, Nat.reduceEqDiff] using this
/-- What Encode answers. -/
def enM (m : Mg) : List UInt8 := if okM m = true then frm (mgB m) else []
theorem mgB_ne (m : Mg) : mgB m ≠ [] := by unfold mgB; simp [num]
set_option maxHeartbeats 4000000 in
theorem msg_encode (m : Mg) (a : Option Addr) (cp : Nat) (v : Value) (w : World) {A : Nat} (hl : Lo.Sl w A w.heap.size a cp m.l) (hv : Lo.IntsR w A w.heap.size v m.s.ks) (hf : Lts m) :
    Calls Try.prog 9 #[mgV m a cp v] w fun e w' => e = .returned (.tuple #[.string (bs (enM m)), .int .i64 (erM m : Nat)]) ∧ Below w.heap.size w w' := by
  have HET := Lib.hid (@erM_t m)
  have HEF := Lib.hid (@erM_f m)
  have HEM : Hid (enM m = if okM m = true then frm (mgB m) else []) := rfl
  have HMV : Hid (mgV m a cp v = .agg #[.int .u8 (m.k : Nat), .int .u64 (m.t : Nat), .int .u64 (m.x : Nat), .int .u64 (m.u : Nat), .int .u64 (m.c : Nat), .bool m.ok, .slice a m.l.length cp, .int .u64 (m.s.i : Nat), .int .u64 (m.s.t : Nat), v, .string m.s.d]) := rfl
  have hlen := fun hr => mgB_len (m := m) hr hf
  have HNE := Lib.hid (mgB_ne m)
  have HCK := Lib.hid (fun z (h1 : Lo.Sl z A z.heap.size a cp m.l) (h2 : Lo.IntsR z A z.heap.size v m.s.ks) => msg_check m a cp v z h1 h2)
  have HMM := Lib.hid (fun B g z h1 h2 h3 h4 hr => msg_make B g m a cp v z (A := A) h1 h2 h3 h4 hr hf)
  rw [HMV.out] at HCK HMM ⊢
  have HOK := Lib.hid (okM_iff m)
  generalize okM m = okm at *
  generalize erM m = er at *
  generalize enM m = em at *
  generalize hrt : Rt m = rt at *
  generalize mgB m = mb at *
  clear hrt HMV hf
  obtain ⟨k, t, x, u, c, ok, l, si, st, sk, sd⟩ := m
  simp only at *
  obtain ⟨sa, sc, rfl⟩ := hv.slice
  have hB0 : Below w.heap.size w (w.alloc (.cells #[.int .u8 (k : Nat), .int .u64 (t : Nat), .int .u64 (x : Nat), .int .u64 (u : Nat), .int .u64 (c : Nat), .bool ok, .slice a l.length cp, .int .u64 (si : Nat), .int .u64 (st : Nat), .slice sa sk.length sc, .string sd] 29)) := (Below.refl _ w).alloc (Nat.le_refl _) _
  have HB0 := Lib.hid hB0
  have W0 := Lib.hid (show Bxn (w.alloc (.cells #[.int .u8 (k : Nat), .int .u64 (t : Nat), .int .u64 (x : Nat), .int .u64 (u : Nat), .int .u64 (c : Nat), .bool ok, .slice a l.length cp, .int .u64 (si : Nat), .int .u64 (st : Nat), .slice sa sk.length sc, .string sd] 29)) w.heap.size [.int .u8 (k : Nat), .int .u64 (t : Nat), .int .u64 (x : Nat), .int .u64 (u : Nat), .int .u64 (c : Nat), .bool ok, .slice a l.length cp, .int .u64 (si : Nat), .int .u64 (st : Nat), .slice sa sk.length sc, .string sd] from Bxn.made w _ _)
  have HL0 := Lib.hid ((hl.keep hB0).more hB0.size (Nat.le_refl _))
  have HV0 := Lib.hid ((hv.keep hB0).more hB0.size (Nat.le_refl _))
  have HC := Lib.hid (HCK.out _ HL0.out HV0.out)
  clear hB0 hl hv HCK
  cases okm
  · obtain rfl : er = 4 := HEF.out rfl
    obtain rfl : em = [] := HEM.out
    clear HET HEF HEM HMM HOK hlen
    go_enter Try.func9, Try.ntmps9
    go_wp2_with (go_at_call 15; go_loud ((with_reducible refine (HC.out).mono ?_); rintro e w1 ⟨rfl, hb⟩; have HB1 := Lib.hid (HB0.out.trans (hb.mono HB0.out.size)); clear hb))
    go_wp2
    go_ret2
    exact ⟨rfl, HB1.out⟩
  · obtain rfl : er = 0 := HET.out rfl
    obtain rfl : em = frm mb := HEM.out
    have hrt := HOK.out.1 rfl
    have hmb := hlen hrt
    have HM1 := Lib.hid (fun B g z h1 h2 h3 h4 => HMM.out B g z h1 h2 h3 h4 hrt)
    have HF0 := Lib.hid (fun z => PackFrame.frame_own (bs mb) z (by rw [bs_size]; simp only [maxLen]; omega))
    have HFI : Hid (∀ e, PackFrame.Framed (bs mb) e → e = .returned (.tuple #[.string (bs (frm mb)), .int .i64 0])) := by
      intro e he
      unfold PackFrame.Framed PackFrame.frS PackFrame.frW at he
      rw [if_neg (by rw [bs_size]; omega), if_neg (by rw [bs_size]; omega), bs_data] at he
      exact he
    clear HET HEF HEM HMM HOK hlen hrt hmb
    go_enter Try.func9, Try.ntmps9
    go_wp2_with (go_at_call 15; go_loud ((with_reducible refine (HC.out).mono ?_); rintro e w1 ⟨rfl, hb⟩; have S1 := Lib.hid hb.size; have W1 := Lib.hid ((W0.out.below hb).below ((Below.refl w1.heap.size w1).alloc (Nat.le_refl _) (.cells #[.pointer none, .slice none 0 0] 48))); have d0 : (w1.alloc (.cells #[.pointer none, .slice none 0 0] 48)).cell? ⟨w.heap.size, 0, none⟩ = some (.int .u8 (k : Nat)) := W1.out.cell 0; have d1 : (w1.alloc (.cells #[.pointer none, .slice none 0 0] 48)).cell? ⟨w.heap.size, 1, none⟩ = some (.int .u64 (t : Nat)) := W1.out.cell 1; have d2 : (w1.alloc (.cells #[.pointer none, .slice none 0 0] 48)).cell? ⟨w.heap.size, 2, none⟩ = some (.int .u64 (x : Nat)) := W1.out.cell 2; have d3 : (w1.alloc (.cells #[.pointer none, .slice none 0 0] 48)).cell? ⟨w.heap.size, 3, none⟩ = some (.int .u64 (u : Nat)) := W1.out.cell 3; have d4 : (w1.alloc (.cells #[.pointer none, .slice none 0 0] 48)).cell? ⟨w.heap.size, 4, none⟩ = some (.int .u64 (c : Nat)) := W1.out.cell 4; have d5 : (w1.alloc (.cells #[.pointer none, .slice none 0 0] 48)).cell? ⟨w.heap.size, 5, none⟩ = some (.bool ok) := W1.out.cell 5; have d6 : (w1.alloc (.cells #[.pointer none, .slice none 0 0] 48)).cell? ⟨w.heap.size, 6, none⟩ = some (.slice a l.length cp) := W1.out.cell 6; have d7 : (w1.alloc (.cells #[.pointer none, .slice none 0 0] 48)).cell? ⟨w.heap.size, 7, none⟩ = some (.int .u64 (si : Nat)) := W1.out.cell 7; have d8 : (w1.alloc (.cells #[.pointer none, .slice none 0 0] 48)).cell? ⟨w.heap.size, 8, none⟩ = some (.int .u64 (st : Nat)) := W1.out.cell 8; have d9 : (w1.alloc (.cells #[.pointer none, .slice none 0 0] 48)).cell? ⟨w.heap.size, 9, none⟩ = some (.slice sa sk.length sc) := W1.out.cell 9; have d10 : (w1.alloc (.cells #[.pointer none, .slice none 0 0] 48)).cell? ⟨w.heap.size, 10, none⟩ = some (.string sd) := W1.out.cell 10; have HB1 := Lib.hid (HB0.out.trans (hb.mono HB0.out.size)); have HL1 := Lib.hid ((HL0.out.keep hb).more (B' := w1.heap.size) hb.size (Nat.le_refl _)); have HV1 := Lib.hid ((HV0.out.keep hb).more (B' := w1.heap.size) hb.size (Nat.le_refl _)); clear hb))
    have HA : Hid (Below w1.heap.size w1 (w1.alloc (.cells #[.pointer none, .slice none 0 0] 48))) := (Below.refl w1.heap.size w1).alloc (Nat.le_refl _) _
    have HM0 := Lib.hid (Mk.made 48 fits_msg w1)
    have HX := Lib.hid (HM1.out w1.heap.size w1.heap.size _ HM0.out HA.out.size (HL1.out.keep HA.out) (HV1.out.keep HA.out).ints)
    have hz1 : w.heap.size ≤ w1.heap.size := HB1.out.size
    go_wp2_with (go_at_call 17; go_loud ((with_reducible refine (HX.out).mono ?_); rintro e w2 ⟨rfl, hm, hf⟩; have HM2 := Lib.hid hm; have HB2 := Lib.hid ((HB1.out.trans (HA.out.mono hz1)).trans (hf.1.mono hz1)); clear hm hf))
    go_wp2_with (go_at_call 19; go_loud ((with_reducible refine (mk_bytes _ _ _ _ HM2.out HNE.out).mono ?_); rintro e w3 ⟨rfl, hb⟩; have HB3 := Lib.hid (HB2.out.trans (hb.mono hz1)); clear hb))
    go_wp2_with (go_at_call 18; go_loud ((with_reducible refine (HF0.out _).mono ?_); rintro e w4 ⟨he, hb⟩; have he2 := HFI.out e he; subst he2; have HB4 := Lib.hid (HB3.out.trans (hb.mono HB3.out.size)); clear hb he))
    go_wp2
    go_ret2
    exact ⟨rfl, HB4.out⟩
end Hd
end Go.Proofs.Ytlkdjnnlbccjdaa
