/-
  Merged: OrdPref, OrdNref, OrdByt, OrdEncR.
-/
import Derived.Test.YthlchdlgafincaaOrdTl
import Derived.Deep.LoopGhost
import Derived.Test.YthlchdlgafincaaOrdChkR
/-
  AMOUNTS and pairs as bytes, by the document.
-/
namespace Go.Proofs.Ythlchdlgafincaa
open Go.RowKit
namespace Hd
open PM Hc
theorem add_fit {p q : ByteArray} (h : p.size + q.size ≤ 100000) : p.size + q.size ≤ 9223372036854775807 ∧ (¬ 9223372036854775807 < p.size + q.size) ∧ p.size + q.size ≤ maxLen := by
  unfold maxLen
  omega
set_option maxRecDepth 100000 in
set_option maxHeartbeats 2000000 in
theorem amounts_ref (a0 a1 a2 : Nat) (w : World) (h0 : a0 < 2 ^ 63) (h1 : a1 < 2 ^ 63) (h2 : a2 < 2 ^ 63) :
    Calls Try.prog 78 #[.agg #[.int .i64 (a0 : Nat), .int .i64 (a1 : Nat), .int .i64 (a2 : Nat)]] w fun e w' => e = .returned (.string (bs (amB a0 a1 a2))) ∧ Below w.heap.size w w' := by
  have HB0 : Hid (Below w.heap.size w (w.alloc (.cells #[.int .i64 (a0 : Nat), .int .i64 (a1 : Nat), .int .i64 (a2 : Nat)] 24))) := (Below.refl _ _).alloc (Nat.le_refl _) _
  have HN := Lib.hid (fun n (hn : n < 2 ^ 63) z => PackRefNum.number_ref n z (by omega))
  have H0 := Lib.hid h0
  have H1 := Lib.hid h1
  have H2 := Lib.hid h2
  have t0 : IntKind.u64.wrap ((a0 : Nat) : Int) = ((a0 : Nat) : Int) := by rw [IntKind.wrap_u64]; omega
  have t1 : IntKind.u64.wrap ((a1 : Nat) : Int) = ((a1 : Nat) : Int) := by rw [IntKind.wrap_u64]; omega
  have t2 : IntKind.u64.wrap ((a2 : Nat) : Int) = ((a2 : Nat) : Int) := by rw [IntKind.wrap_u64]; omega
  have l0 := num_le a0 (by omega)
  have l1 := num_le a1 (by omega)
  have l2 := num_le a2 (by omega)
  have HL := Lib.hid (fun k => amP_len a0 a1 a2 k h0 h1 h2)
  clear h0 h1 h2
  go_enter Try.func78, Try.ntmps78
  go_wp2
  go_loopg [3, 7] 3 (fun gg s i wx => ∃ k : Nat, k + gg = 3 ∧ i = .int .i64 k ∧ s = .string (bs (amP a0 a1 a2 k)) ∧ Aside (Below w.heap.size w wx))
  case atStart => exact ⟨0, by omega, rfl, rfl, HB0.out⟩
  case round =>
    obtain ⟨k, hkg, rfl, rfl, HB⟩ := hrel
    cases gk with
    | zero =>
      obtain rfl : k = 3 := by omega
      go_wp2
      go_ret
      exact ⟨rfl, HB.out⟩
    | succ gg =>
      have hc : k = 0 ∨ k = 1 ∨ k = 2 := by omega
      rcases hc with rfl | rfl | rfl
      · have i0 := ar0 (a0 : Nat) (a1 : Nat) (a2 : Nat)
        have hz : (bs (amP a0 a1 a2 0)).size ≤ 27 := by rw [bs_size]; exact HL.out 0
        have hy : (bs (num a0)).size ≤ 9 := by rw [bs_size]; exact l0
        have HE : Hid (bs (amP a0 a1 a2 0) ++ bs (num a0) = bs (amP a0 a1 a2 1)) := by
          show _ = _
          rw [bs_append]
          unfold amP
          first | rfl | simp only [List.nil_append, List.append_assoc]
        have K := Lib.hid (HN.out a0 H0.out)
        generalize bs (amP a0 a1 a2 0) = q at *
        generalize bs (num a0) = qn at *
        obtain ⟨z1, z2, z3⟩ := add_fit (p := q) (q := qn) (by omega)
        go_wp2_with fail
        refine (K.out _).mono ?_
        rintro e w1 ⟨rfl, hb⟩
        have HB1 := Lib.hid (HB.out.trans (hb.mono HB.out.size))
        clear hb
        go_wp2
        go_roundg gg
        case measure => omega
        case rel => exact ⟨1, by omega, rfl, by rw [← HE.out], HB1.out⟩
      · have i0 := ar1 (a0 : Nat) (a1 : Nat) (a2 : Nat)
        have hz : (bs (amP a0 a1 a2 1)).size ≤ 27 := by rw [bs_size]; exact HL.out 1
        have hy : (bs (num a1)).size ≤ 9 := by rw [bs_size]; exact l1
        have HE : Hid (bs (amP a0 a1 a2 1) ++ bs (num a1) = bs (amP a0 a1 a2 2)) := by
          show _ = _
          rw [bs_append]
          unfold amP
          first | rfl | simp only [List.nil_append, List.append_assoc]
        have K := Lib.hid (HN.out a1 H1.out)
        generalize bs (amP a0 a1 a2 1) = q at *
        generalize bs (num a1) = qn at *
        obtain ⟨z1, z2, z3⟩ := add_fit (p := q) (q := qn) (by omega)
        go_wp2_with fail
        refine (K.out _).mono ?_
        rintro e w1 ⟨rfl, hb⟩
        have HB1 := Lib.hid (HB.out.trans (hb.mono HB.out.size))
        clear hb
        go_wp2
        go_roundg gg
        case measure => omega
        case rel => exact ⟨2, by omega, rfl, by rw [← HE.out], HB1.out⟩
      · have i0 := ar2 (a0 : Nat) (a1 : Nat) (a2 : Nat)
        have hz : (bs (amP a0 a1 a2 2)).size ≤ 27 := by rw [bs_size]; exact HL.out 2
        have hy : (bs (num a2)).size ≤ 9 := by rw [bs_size]; exact l2
        have HE : Hid (bs (amP a0 a1 a2 2) ++ bs (num a2) = bs (amP a0 a1 a2 3)) := by
          show _ = _
          rw [bs_append]
          unfold amP
          first | rfl | simp only [List.nil_append, List.append_assoc]
        have K := Lib.hid (HN.out a2 H2.out)
        generalize bs (amP a0 a1 a2 2) = q at *
        generalize bs (num a2) = qn at *
        obtain ⟨z1, z2, z3⟩ := add_fit (p := q) (q := qn) (by omega)
        go_wp2_with fail
        refine (K.out _).mono ?_
        rintro e w1 ⟨rfl, hb⟩
        have HB1 := Lib.hid (HB.out.trans (hb.mono HB.out.size))
        clear hb
        go_wp2
        go_roundg gg
        case measure => omega
        case rel => exact ⟨3, by omega, rfl, by rw [← HE.out], HB1.out⟩
set_option maxRecDepth 100000 in
set_option maxHeartbeats 4000000 in
theorem pairsB_ref (v : Value) (ps : List Rg.Pr) (w : World) (hv : Rg.Pairs w w.heap.size v ps) (hs : SmP ps) :
    Calls Try.prog 79 #[v] w fun e w' => e = .returned (.string (bs (prB ps))) ∧ Below w.heap.size w w' := by
  obtain ⟨a, c, rfl, hl, -, hc⟩ := hv
  have HC := Lib.hid hc
  have hs1 := hs.1
  have HS := Lib.hid hs.2
  have hN := fun z => PackRefNum.number_ref ps.length z (by omega)
  have HN := Lib.hid hN
  have HT := Lib.hid (fun (s : ByteArray) (h : s.size ≤ 32) z => PackText.text_ref s z (by show s.size ≤ 140737488351232; omega))
  have tn : IntKind.u64.wrap ((ps.length : Nat) : Int) = ((ps.length : Nat) : Int) := by rw [IntKind.wrap_u64]; omega
  have HLN := Lib.hid (num_le ps.length (by omega))
  clear hc hs hN
  go_enter Try.func79, Try.ntmps79
  go_wp2_with fail
  refine (HN.out _).mono ?_
  rintro e w1 ⟨rfl, hb⟩
  have HB1 := Lib.hid hb
  clear hb
  go_wp2
  go_loopg [3, 12] ps.length (fun gg s i wx => ∃ k : Nat, k + gg = ps.length ∧ i = .int .i64 k ∧ s = .string (bs (num ps.length ++ (ps.take k).flatMap prF)) ∧ Aside (Below w.heap.size w wx))
  case atStart => exact ⟨0, by omega, rfl, by simp, HB1.out⟩
  case round =>
    obtain ⟨k, hkg, rfl, rfl, HB⟩ := hrel
    cases gk with
    | zero =>
      obtain rfl : k = ps.length := by omega
      have HE : Hid (bs (num ps.length ++ (ps.take ps.length).flatMap prF) = bs (prB ps)) := by show _ = _; rw [List.take_length]; rfl
      clear hkg
      go_wp2
      go_ret
      exact ⟨by rw [← HE.out]; rfl, HB.out⟩
    | succ gg =>
      have hk1 : k < ps.length := by omega
      have hlt : (k : Int) < (ps.length : Int) := by omega
      have hk0 : (0 : Int) ≤ (k : Int) := by omega
      obtain ⟨b, off, rfl, hb, hcc⟩ := HC.out (by omega)
      have e1 := (HB.out.cell (by exact hb)).trans (hcc k hk1).1
      have e2 := (HB.out.cell (by exact hb)).trans (hcc k hk1).2
      obtain ⟨z1, z2⟩ := HS.out _ (List.getElem_mem hk1)
      have hz : (bs (num ps.length ++ (ps.take k).flatMap prF)).size ≤ 400 := by
        rw [bs_size, List.length_append]
        have h1 := prF_le (ps.take k) (fun p hp => HS.out p (List.mem_of_mem_take hp))
        have h2 : (ps.take k).length ≤ 4 := by rw [List.length_take]; omega
        have h3 := HLN.out
        omega
      have HE : Hid (bs (num ps.length ++ (ps.take k).flatMap prF) ++ (PackText.txtB ps[k].k ++ PackText.txtB ps[k].v) = bs (num ps.length ++ (ps.take (k + 1)).flatMap prF)) := by
        show _ = _
        unfold PackText.txtB
        rw [bs_append, bs_append, List.take_add_one, List.getElem?_eq_getElem hk1, List.flatMap_append]
        simp [prF]
      have y1 : (PackText.txtB ps[k].k).size ≤ 41 := by unfold PackText.txtB; rw [bs_size]; exact txt_le _ z1
      have y2 : (PackText.txtB ps[k].v).size ≤ 41 := by unfold PackText.txtB; rw [bs_size]; exact txt_le _ z2
      have KK := Lib.hid (HT.out ps[k].k z1)
      have KV := Lib.hid (HT.out ps[k].v z2)
      clear hcc z1 z2
      generalize PackText.txtB ps[k].k = q1 at *
      generalize PackText.txtB ps[k].v = q2 at *
      generalize ps[k].k = kk at *
      generalize ps[k].v = vv at *
      generalize bs (num ps.length ++ (ps.take k).flatMap prF) = q at *
      obtain ⟨x1, x2, x3⟩ := add_fit (p := q1) (q := q2) (by omega)
      have hq12 : (q1 ++ q2).size = q1.size + q2.size := by simp
      obtain ⟨x4, x5, x6⟩ := add_fit (p := q) (q := q1 ++ q2) (by omega)
      rw [hq12] at x4 x5 x6
      have tk : IntKind.i64.wrap ((k : Int) + 1) = (k : Int) + 1 := by rw [IntKind.wrap_i64]; omega
      have L0 : Hid (∀ z, (z.cell? ⟨wr.heap.size, 0, none⟩ = some (.string kk) ∧ z.cell? ⟨wr.heap.size, 1, none⟩ = some (.string vv) ∧ Hid (Below w.heap.size w z ∧ wr.heap.size + 1 ≤ z.heap.size)) → ∀ z', Below z.heap.size z z' → (z'.cell? ⟨wr.heap.size, 0, none⟩ = some (.string kk) ∧ z'.cell? ⟨wr.heap.size, 1, none⟩ = some (.string vv) ∧ Hid (Below w.heap.size w z' ∧ wr.heap.size + 1 ≤ z'.heap.size))) := by
        intro z h z' hb
        obtain ⟨a0, a1, hS⟩ := h
        have hz := hS.out.2
        have k : ∀ j u, z.cell? ⟨wr.heap.size, j, none⟩ = some u → z'.cell? ⟨wr.heap.size, j, none⟩ = some u := fun j u hu => (hb.cell (by show wr.heap.size < _; omega)).trans hu
        exact ⟨k _ _ a0, k _ _ a1, hS.out.1.trans (hb.mono hS.out.1.size), by have := hb.size; omega⟩
      have KB : Hid (∀ z, (z.cell? ⟨wr.heap.size, 0, none⟩ = some (.string kk) ∧ z.cell? ⟨wr.heap.size, 1, none⟩ = some (.string vv) ∧ Hid (Below w.heap.size w z ∧ wr.heap.size + 1 ≤ z.heap.size)) → Below w.heap.size w z) := fun z h => h.2.2.out.1
      have K1 : Hid (∀ z, (z.cell? ⟨wr.heap.size, 0, none⟩ = some (.string kk) ∧ z.cell? ⟨wr.heap.size, 1, none⟩ = some (.string vv) ∧ Hid (Below w.heap.size w z ∧ wr.heap.size + 1 ≤ z.heap.size)) → Calls Try.prog 51 #[.string kk] z fun e z' => e = .returned (.string q1) ∧ (z'.cell? ⟨wr.heap.size, 0, none⟩ = some (.string kk) ∧ z'.cell? ⟨wr.heap.size, 1, none⟩ = some (.string vv) ∧ Hid (Below w.heap.size w z' ∧ wr.heap.size + 1 ≤ z'.heap.size))) := fun z h => (KK.out z).mono fun e z' ⟨he, hb⟩ => ⟨he, L0.out z h z' hb⟩
      have K2 : Hid (∀ z, (z.cell? ⟨wr.heap.size, 0, none⟩ = some (.string kk) ∧ z.cell? ⟨wr.heap.size, 1, none⟩ = some (.string vv) ∧ Hid (Below w.heap.size w z ∧ wr.heap.size + 1 ≤ z.heap.size)) → Calls Try.prog 51 #[.string vv] z fun e z' => e = .returned (.string q2) ∧ (z'.cell? ⟨wr.heap.size, 0, none⟩ = some (.string kk) ∧ z'.cell? ⟨wr.heap.size, 1, none⟩ = some (.string vv) ∧ Hid (Below w.heap.size w z' ∧ wr.heap.size + 1 ≤ z'.heap.size))) := fun z h => (KV.out z).mono fun e z' ⟨he, hb⟩ => ⟨he, L0.out z h z' hb⟩
      have KD : Hid (((wr.alloc (.cells #[.string kk, .string vv] 132)).drew).cell? ⟨wr.heap.size, 0, none⟩ = some (.string kk) ∧ ((wr.alloc (.cells #[.string kk, .string vv] 132)).drew).cell? ⟨wr.heap.size, 1, none⟩ = some (.string vv) ∧ Hid (Below w.heap.size w ((wr.alloc (.cells #[.string kk, .string vv] 132)).drew) ∧ wr.heap.size + 1 ≤ ((wr.alloc (.cells #[.string kk, .string vv] 132)).drew).heap.size)) := ⟨by simp [go_sem], by simp [go_sem], (HB.out.trans (((Below.refl wr.heap.size wr).alloc (Nat.le_refl _) _).drew.mono HB.out.size)), by show _ ≤ (wr.alloc _).heap.size; simp⟩
      clear L0 KK KV hq12
      go_wp2
      go_region_held3 (fun z => z.cell? ⟨wr.heap.size, 0, none⟩ = some (.string kk) ∧ z.cell? ⟨wr.heap.size, 1, none⟩ = some (.string vv) ∧ Hid (Below w.heap.size w z ∧ wr.heap.size + 1 ≤ z.heap.size)) (first | assumption | exact KD.out)
        (first
          | (go_at_call 51; (with_reducible refine (K1.out _ ?_).mono ?_); assumption; rintro e w7 ⟨rfl, hS⟩)
          | (go_at_call 51; (with_reducible refine (K2.out _ ?_).mono ?_); assumption; rintro e w7 ⟨rfl, hS⟩))
      all_goals
        go_wp2
        go_roundg gg
        case measure => omega
        case rel => exact ⟨k + 1, by omega, by simp, by rw [← HE.out], KB.out _ hS⟩
end Hd
end Go.Proofs.Ythlchdlgafincaa

/-
  A NODE, a task as bytes, by the document.
-/
namespace Go.Proofs.Ythlchdlgafincaa
open Go.RowKit
namespace Hd
open PM Hc
set_option maxRecDepth 100000 in
set_option maxHeartbeats 4000000 in
theorem nodeB_ref (nm : ByteArray) (h0 h1 h2 : Nat) (la ta : Option Addr) (lc tc : Nat) (ls ts : List Rg.Pr) (w : World) (hn : nm.size ≤ 32) (z0 : h0 ≤ 1099511627776) (z1 : h1 ≤ 1099511627776) (z2 : h2 ≤ 1099511627776) (hl : Rg.Pairs w w.heap.size (.slice la ls.length lc) ls) (ht : Rg.Pairs w w.heap.size (.slice ta ts.length tc) ts) (sl : SmP ls) (st : SmP ts) :
    Calls Try.prog 49 #[.agg #[.string nm, .int .i64 (h0 : Nat), .int .i64 (h1 : Nat), .int .i64 (h2 : Nat), .slice la ls.length lc, .slice ta ts.length tc]] w fun e w' => e = .returned (.string (bs (ndB nm h0 h1 h2 ls ts))) ∧ Below w.heap.size w w' := by
  have l0 := txt_le nm hn
  have l1 : (amB h0 h1 h2).length ≤ 27 := amP_len h0 h1 h2 3 (by omega) (by omega) (by omega)
  have l2 := prs_le sl
  have l3 := prs_le st
  have G0 : ∀ z, Below w.heap.size w z → Calls Try.prog 51 #[.string nm] z fun e z' => e = .returned (.string (bs (txt nm.data.toList))) ∧ Below z.heap.size z z' := fun z hb => PackText.text_ref nm z (by show nm.size ≤ 140737488351232; omega)
  have s0 : (bs (txt nm.data.toList)).size ≤ 41 := by rw [bs_size]; exact l0
  have G1 : ∀ z, Below w.heap.size w z → Calls Try.prog 78 #[.agg #[.int .i64 (h0 : Nat), .int .i64 (h1 : Nat), .int .i64 (h2 : Nat)]] z fun e z' => e = .returned (.string (bs (amB h0 h1 h2))) ∧ Below z.heap.size z z' := fun z hb => amounts_ref h0 h1 h2 z (by omega) (by omega) (by omega)
  have s1 : (bs (amB h0 h1 h2)).size ≤ 27 := by rw [bs_size]; exact l1
  have G2 : ∀ z, Below w.heap.size w z → Calls Try.prog 79 #[.slice la ls.length lc] z fun e z' => e = .returned (.string (bs (prB ls))) ∧ Below z.heap.size z z' := fun z hb => pairsB_ref _ ls z (hl.ovr hb) sl
  have s2 : (bs (prB ls)).size ≤ 337 := by rw [bs_size]; exact l2
  have G3 : ∀ z, Below w.heap.size w z → Calls Try.prog 79 #[.slice ta ts.length tc] z fun e z' => e = .returned (.string (bs (prB ts))) ∧ Below z.heap.size z z' := fun z hb => pairsB_ref _ ts z (ht.ovr hb) st
  have s3 : (bs (prB ts)).size ≤ 337 := by rw [bs_size]; exact l3
  have eB : ndB nm h0 h1 h2 ls ts = (txt nm.data.toList) ++ (amB h0 h1 h2) ++ (prB ls) ++ (prB ts) := by rfl
  rw [eB, ← bs_append, ← bs_append, ← bs_append]
  generalize bs (txt nm.data.toList) = q0 at *
  generalize bs (amB h0 h1 h2) = q1 at *
  generalize bs (prB ls) = q2 at *
  generalize bs (prB ts) = q3 at *
  have z1 : q0.size + q1.size ≤ 9223372036854775807 := by omega
  have z1' : ¬ 9223372036854775807 < q0.size + q1.size := by omega
  have y1 : q0.size + q1.size ≤ maxLen := by unfold maxLen; omega
  have z2 : q0.size + q1.size + q2.size ≤ 9223372036854775807 := by omega
  have z2' : ¬ 9223372036854775807 < q0.size + q1.size + q2.size := by omega
  have y2 : q0.size + q1.size + q2.size ≤ maxLen := by unfold maxLen; omega
  have z3 : q0.size + q1.size + q2.size + q3.size ≤ 9223372036854775807 := by omega
  have z3' : ¬ 9223372036854775807 < q0.size + q1.size + q2.size + q3.size := by omega
  have y3 : q0.size + q1.size + q2.size + q3.size ≤ maxLen := by unfold maxLen; omega
  clear s0 l0 s1 l1 s2 l2 s3 l3 eB
  have L0 : Hid (∀ z, (z.cell? ⟨w.heap.size, 0, none⟩ = some (.string nm) ∧ z.cell? ⟨w.heap.size, 1, none⟩ = some (.int .i64 (h0 : Nat)) ∧ z.cell? ⟨w.heap.size, 2, none⟩ = some (.int .i64 (h1 : Nat)) ∧ z.cell? ⟨w.heap.size, 3, none⟩ = some (.int .i64 (h2 : Nat)) ∧ z.cell? ⟨w.heap.size, 4, none⟩ = some (.slice la ls.length lc) ∧ z.cell? ⟨w.heap.size, 5, none⟩ = some (.slice ta ts.length tc) ∧ Hid (Below w.heap.size w z ∧ w.heap.size + 1 ≤ z.heap.size)) → ∀ z', Below z.heap.size z z' → (z'.cell? ⟨w.heap.size, 0, none⟩ = some (.string nm) ∧ z'.cell? ⟨w.heap.size, 1, none⟩ = some (.int .i64 (h0 : Nat)) ∧ z'.cell? ⟨w.heap.size, 2, none⟩ = some (.int .i64 (h1 : Nat)) ∧ z'.cell? ⟨w.heap.size, 3, none⟩ = some (.int .i64 (h2 : Nat)) ∧ z'.cell? ⟨w.heap.size, 4, none⟩ = some (.slice la ls.length lc) ∧ z'.cell? ⟨w.heap.size, 5, none⟩ = some (.slice ta ts.length tc) ∧ Hid (Below w.heap.size w z' ∧ w.heap.size + 1 ≤ z'.heap.size))) := by
    intro z h z' hb
    obtain ⟨a0, a1, a2, a3, a4, a5, hS⟩ := h
    have hz := hS.out.2
    have k : ∀ j u, z.cell? ⟨w.heap.size, j, none⟩ = some u → z'.cell? ⟨w.heap.size, j, none⟩ = some u := fun j u hu => (hb.cell (by show w.heap.size < _; omega)).trans hu
    exact ⟨k _ _ a0, k _ _ a1, k _ _ a2, k _ _ a3, k _ _ a4, k _ _ a5, hS.out.1.trans (hb.mono (by omega)), by have := hb.size; omega⟩
  have KB : Hid (∀ z, (z.cell? ⟨w.heap.size, 0, none⟩ = some (.string nm) ∧ z.cell? ⟨w.heap.size, 1, none⟩ = some (.int .i64 (h0 : Nat)) ∧ z.cell? ⟨w.heap.size, 2, none⟩ = some (.int .i64 (h1 : Nat)) ∧ z.cell? ⟨w.heap.size, 3, none⟩ = some (.int .i64 (h2 : Nat)) ∧ z.cell? ⟨w.heap.size, 4, none⟩ = some (.slice la ls.length lc) ∧ z.cell? ⟨w.heap.size, 5, none⟩ = some (.slice ta ts.length tc) ∧ Hid (Below w.heap.size w z ∧ w.heap.size + 1 ≤ z.heap.size)) → Below w.heap.size w z) := fun z h => h.2.2.2.2.2.2.out.1
  have K0 : Hid (∀ z, (z.cell? ⟨w.heap.size, 0, none⟩ = some (.string nm) ∧ z.cell? ⟨w.heap.size, 1, none⟩ = some (.int .i64 (h0 : Nat)) ∧ z.cell? ⟨w.heap.size, 2, none⟩ = some (.int .i64 (h1 : Nat)) ∧ z.cell? ⟨w.heap.size, 3, none⟩ = some (.int .i64 (h2 : Nat)) ∧ z.cell? ⟨w.heap.size, 4, none⟩ = some (.slice la ls.length lc) ∧ z.cell? ⟨w.heap.size, 5, none⟩ = some (.slice ta ts.length tc) ∧ Hid (Below w.heap.size w z ∧ w.heap.size + 1 ≤ z.heap.size)) → Calls Try.prog 51 #[.string nm] z fun e z' => e = .returned (.string q0) ∧ (z'.cell? ⟨w.heap.size, 0, none⟩ = some (.string nm) ∧ z'.cell? ⟨w.heap.size, 1, none⟩ = some (.int .i64 (h0 : Nat)) ∧ z'.cell? ⟨w.heap.size, 2, none⟩ = some (.int .i64 (h1 : Nat)) ∧ z'.cell? ⟨w.heap.size, 3, none⟩ = some (.int .i64 (h2 : Nat)) ∧ z'.cell? ⟨w.heap.size, 4, none⟩ = some (.slice la ls.length lc) ∧ z'.cell? ⟨w.heap.size, 5, none⟩ = some (.slice ta ts.length tc) ∧ Hid (Below w.heap.size w z' ∧ w.heap.size + 1 ≤ z'.heap.size))) := fun z h => (G0 z h.2.2.2.2.2.2.out.1).mono fun e z' ⟨he, hb⟩ => ⟨he, L0.out z h z' hb⟩
  have K1 : Hid (∀ z, (z.cell? ⟨w.heap.size, 0, none⟩ = some (.string nm) ∧ z.cell? ⟨w.heap.size, 1, none⟩ = some (.int .i64 (h0 : Nat)) ∧ z.cell? ⟨w.heap.size, 2, none⟩ = some (.int .i64 (h1 : Nat)) ∧ z.cell? ⟨w.heap.size, 3, none⟩ = some (.int .i64 (h2 : Nat)) ∧ z.cell? ⟨w.heap.size, 4, none⟩ = some (.slice la ls.length lc) ∧ z.cell? ⟨w.heap.size, 5, none⟩ = some (.slice ta ts.length tc) ∧ Hid (Below w.heap.size w z ∧ w.heap.size + 1 ≤ z.heap.size)) → Calls Try.prog 78 #[.agg #[.int .i64 (h0 : Nat), .int .i64 (h1 : Nat), .int .i64 (h2 : Nat)]] z fun e z' => e = .returned (.string q1) ∧ (z'.cell? ⟨w.heap.size, 0, none⟩ = some (.string nm) ∧ z'.cell? ⟨w.heap.size, 1, none⟩ = some (.int .i64 (h0 : Nat)) ∧ z'.cell? ⟨w.heap.size, 2, none⟩ = some (.int .i64 (h1 : Nat)) ∧ z'.cell? ⟨w.heap.size, 3, none⟩ = some (.int .i64 (h2 : Nat)) ∧ z'.cell? ⟨w.heap.size, 4, none⟩ = some (.slice la ls.length lc) ∧ z'.cell? ⟨w.heap.size, 5, none⟩ = some (.slice ta ts.length tc) ∧ Hid (Below w.heap.size w z' ∧ w.heap.size + 1 ≤ z'.heap.size))) := fun z h => (G1 z h.2.2.2.2.2.2.out.1).mono fun e z' ⟨he, hb⟩ => ⟨he, L0.out z h z' hb⟩
  have K2 : Hid (∀ z, (z.cell? ⟨w.heap.size, 0, none⟩ = some (.string nm) ∧ z.cell? ⟨w.heap.size, 1, none⟩ = some (.int .i64 (h0 : Nat)) ∧ z.cell? ⟨w.heap.size, 2, none⟩ = some (.int .i64 (h1 : Nat)) ∧ z.cell? ⟨w.heap.size, 3, none⟩ = some (.int .i64 (h2 : Nat)) ∧ z.cell? ⟨w.heap.size, 4, none⟩ = some (.slice la ls.length lc) ∧ z.cell? ⟨w.heap.size, 5, none⟩ = some (.slice ta ts.length tc) ∧ Hid (Below w.heap.size w z ∧ w.heap.size + 1 ≤ z.heap.size)) → Calls Try.prog 79 #[.slice la ls.length lc] z fun e z' => e = .returned (.string q2) ∧ (z'.cell? ⟨w.heap.size, 0, none⟩ = some (.string nm) ∧ z'.cell? ⟨w.heap.size, 1, none⟩ = some (.int .i64 (h0 : Nat)) ∧ z'.cell? ⟨w.heap.size, 2, none⟩ = some (.int .i64 (h1 : Nat)) ∧ z'.cell? ⟨w.heap.size, 3, none⟩ = some (.int .i64 (h2 : Nat)) ∧ z'.cell? ⟨w.heap.size, 4, none⟩ = some (.slice la ls.length lc) ∧ z'.cell? ⟨w.heap.size, 5, none⟩ = some (.slice ta ts.length tc) ∧ Hid (Below w.heap.size w z' ∧ w.heap.size + 1 ≤ z'.heap.size))) := fun z h => (G2 z h.2.2.2.2.2.2.out.1).mono fun e z' ⟨he, hb⟩ => ⟨he, L0.out z h z' hb⟩
  have K3 : Hid (∀ z, (z.cell? ⟨w.heap.size, 0, none⟩ = some (.string nm) ∧ z.cell? ⟨w.heap.size, 1, none⟩ = some (.int .i64 (h0 : Nat)) ∧ z.cell? ⟨w.heap.size, 2, none⟩ = some (.int .i64 (h1 : Nat)) ∧ z.cell? ⟨w.heap.size, 3, none⟩ = some (.int .i64 (h2 : Nat)) ∧ z.cell? ⟨w.heap.size, 4, none⟩ = some (.slice la ls.length lc) ∧ z.cell? ⟨w.heap.size, 5, none⟩ = some (.slice ta ts.length tc) ∧ Hid (Below w.heap.size w z ∧ w.heap.size + 1 ≤ z.heap.size)) → Calls Try.prog 79 #[.slice ta ts.length tc] z fun e z' => e = .returned (.string q3) ∧ (z'.cell? ⟨w.heap.size, 0, none⟩ = some (.string nm) ∧ z'.cell? ⟨w.heap.size, 1, none⟩ = some (.int .i64 (h0 : Nat)) ∧ z'.cell? ⟨w.heap.size, 2, none⟩ = some (.int .i64 (h1 : Nat)) ∧ z'.cell? ⟨w.heap.size, 3, none⟩ = some (.int .i64 (h2 : Nat)) ∧ z'.cell? ⟨w.heap.size, 4, none⟩ = some (.slice la ls.length lc) ∧ z'.cell? ⟨w.heap.size, 5, none⟩ = some (.slice ta ts.length tc) ∧ Hid (Below w.heap.size w z' ∧ w.heap.size + 1 ≤ z'.heap.size))) := fun z h => (G3 z h.2.2.2.2.2.2.out.1).mono fun e z' ⟨he, hb⟩ => ⟨he, L0.out z h z' hb⟩
  have KD : Hid (((w.alloc (.cells #[.string nm, .int .i64 (h0 : Nat), .int .i64 (h1 : Nat), .int .i64 (h2 : Nat), .slice la ls.length lc, .slice ta ts.length tc] 27)).drew).cell? ⟨w.heap.size, 0, none⟩ = some (.string nm) ∧ ((w.alloc (.cells #[.string nm, .int .i64 (h0 : Nat), .int .i64 (h1 : Nat), .int .i64 (h2 : Nat), .slice la ls.length lc, .slice ta ts.length tc] 27)).drew).cell? ⟨w.heap.size, 1, none⟩ = some (.int .i64 (h0 : Nat)) ∧ ((w.alloc (.cells #[.string nm, .int .i64 (h0 : Nat), .int .i64 (h1 : Nat), .int .i64 (h2 : Nat), .slice la ls.length lc, .slice ta ts.length tc] 27)).drew).cell? ⟨w.heap.size, 2, none⟩ = some (.int .i64 (h1 : Nat)) ∧ ((w.alloc (.cells #[.string nm, .int .i64 (h0 : Nat), .int .i64 (h1 : Nat), .int .i64 (h2 : Nat), .slice la ls.length lc, .slice ta ts.length tc] 27)).drew).cell? ⟨w.heap.size, 3, none⟩ = some (.int .i64 (h2 : Nat)) ∧ ((w.alloc (.cells #[.string nm, .int .i64 (h0 : Nat), .int .i64 (h1 : Nat), .int .i64 (h2 : Nat), .slice la ls.length lc, .slice ta ts.length tc] 27)).drew).cell? ⟨w.heap.size, 4, none⟩ = some (.slice la ls.length lc) ∧ ((w.alloc (.cells #[.string nm, .int .i64 (h0 : Nat), .int .i64 (h1 : Nat), .int .i64 (h2 : Nat), .slice la ls.length lc, .slice ta ts.length tc] 27)).drew).cell? ⟨w.heap.size, 5, none⟩ = some (.slice ta ts.length tc) ∧ Hid (Below w.heap.size w ((w.alloc (.cells #[.string nm, .int .i64 (h0 : Nat), .int .i64 (h1 : Nat), .int .i64 (h2 : Nat), .slice la ls.length lc, .slice ta ts.length tc] 27)).drew) ∧ w.heap.size + 1 ≤ ((w.alloc (.cells #[.string nm, .int .i64 (h0 : Nat), .int .i64 (h1 : Nat), .int .i64 (h2 : Nat), .slice la ls.length lc, .slice ta ts.length tc] 27)).drew).heap.size)) := ⟨by simp [go_sem], by simp [go_sem], by simp [go_sem], by simp [go_sem], by simp [go_sem], by simp [go_sem], ((Below.refl _ _).alloc (Nat.le_refl _) _).drew, by show _ ≤ (w.alloc _).heap.size; simp⟩
  clear G0 G1 G2 G3 L0
  go_enter Try.func49, Try.ntmps49
  go_wp2
  go_region_held3 (fun z => z.cell? ⟨w.heap.size, 0, none⟩ = some (.string nm) ∧ z.cell? ⟨w.heap.size, 1, none⟩ = some (.int .i64 (h0 : Nat)) ∧ z.cell? ⟨w.heap.size, 2, none⟩ = some (.int .i64 (h1 : Nat)) ∧ z.cell? ⟨w.heap.size, 3, none⟩ = some (.int .i64 (h2 : Nat)) ∧ z.cell? ⟨w.heap.size, 4, none⟩ = some (.slice la ls.length lc) ∧ z.cell? ⟨w.heap.size, 5, none⟩ = some (.slice ta ts.length tc) ∧ Hid (Below w.heap.size w z ∧ w.heap.size + 1 ≤ z.heap.size)) (first | assumption | exact KD.out)
    (first
      | (go_at_call 51; (with_reducible refine (K0.out _ ?_).mono ?_); assumption; rintro e w7 ⟨rfl, hS⟩)
      | (go_at_call 78; (with_reducible refine (K1.out _ ?_).mono ?_); assumption; rintro e w7 ⟨rfl, hS⟩)
      | (go_at_call 79; (with_reducible refine (K2.out _ ?_).mono ?_); assumption; rintro e w7 ⟨rfl, hS⟩)
      | (go_at_call 79; (with_reducible refine (K3.out _ ?_).mono ?_); assumption; rintro e w7 ⟨rfl, hS⟩))
  all_goals
    go_wp2
    go_ret
    exact ⟨rfl, KB.out _ hS⟩
set_option maxRecDepth 100000 in
set_option maxHeartbeats 4000000 in
theorem taskB_ref (nm : ByteArray) (h0 h1 h2 : Nat) (la ta : Option Addr) (lc tc : Nat) (ls ts : List Rg.Pr) (gr ap : ByteArray) (r : Int) (rk : Nat) (w : World) (hn : nm.size ≤ 32) (z0 : h0 ≤ 1099511627776) (z1 : h1 ≤ 1099511627776) (z2 : h2 ≤ 1099511627776) (hl : Rg.Pairs w w.heap.size (.slice la ls.length lc) ls) (ht : Rg.Pairs w w.heap.size (.slice ta ts.length tc) ts) (sl : SmP ls) (st : SmP ts) (hg : gr.size ≤ 32) (ha : ap.size ≤ 32) (hr : r + 1000 = (rk : Nat)) (hrk : rk ≤ 2000) :
    Calls Try.prog 50 #[.agg #[.string nm, .int .i64 (h0 : Nat), .int .i64 (h1 : Nat), .int .i64 (h2 : Nat), .slice la ls.length lc, .slice ta ts.length tc, .string gr, .string ap, .int .i64 r]] w fun e w' => e = .returned (.string (bs (tsB nm h0 h1 h2 ls ts gr ap rk))) ∧ Below w.heap.size w w' := by
  have l0 := txt_le nm hn
  have l1 : (amB h0 h1 h2).length ≤ 27 := amP_len h0 h1 h2 3 (by omega) (by omega) (by omega)
  have l2 := prs_le sl
  have l3 := prs_le st
  have l4 := txt_le gr hg
  have l5 := txt_le ap ha
  have l6 := num_le rk (by omega)
  have t1 : IntKind.i64.wrap (r + 1000) = ((rk : Nat) : Int) := by rw [IntKind.wrap_i64]; omega
  have t2 : IntKind.u64.wrap ((rk : Nat) : Int) = ((rk : Nat) : Int) := by rw [IntKind.wrap_u64]; omega
  have t3 : IntKind.i64.wrap ((rk : Nat) : Int) = ((rk : Nat) : Int) := by rw [IntKind.wrap_i64]; omega
  have G0 : ∀ z, Below w.heap.size w z → Calls Try.prog 51 #[.string nm] z fun e z' => e = .returned (.string (bs (txt nm.data.toList))) ∧ Below z.heap.size z z' := fun z hb => PackText.text_ref nm z (by show nm.size ≤ 140737488351232; omega)
  have s0 : (bs (txt nm.data.toList)).size ≤ 41 := by rw [bs_size]; exact l0
  have G1 : ∀ z, Below w.heap.size w z → Calls Try.prog 78 #[.agg #[.int .i64 (h0 : Nat), .int .i64 (h1 : Nat), .int .i64 (h2 : Nat)]] z fun e z' => e = .returned (.string (bs (amB h0 h1 h2))) ∧ Below z.heap.size z z' := fun z hb => amounts_ref h0 h1 h2 z (by omega) (by omega) (by omega)
  have s1 : (bs (amB h0 h1 h2)).size ≤ 27 := by rw [bs_size]; exact l1
  have G2 : ∀ z, Below w.heap.size w z → Calls Try.prog 79 #[.slice la ls.length lc] z fun e z' => e = .returned (.string (bs (prB ls))) ∧ Below z.heap.size z z' := fun z hb => pairsB_ref _ ls z (hl.ovr hb) sl
  have s2 : (bs (prB ls)).size ≤ 337 := by rw [bs_size]; exact l2
  have G3 : ∀ z, Below w.heap.size w z → Calls Try.prog 79 #[.slice ta ts.length tc] z fun e z' => e = .returned (.string (bs (prB ts))) ∧ Below z.heap.size z z' := fun z hb => pairsB_ref _ ts z (ht.ovr hb) st
  have s3 : (bs (prB ts)).size ≤ 337 := by rw [bs_size]; exact l3
  have G4 : ∀ z, Below w.heap.size w z → Calls Try.prog 51 #[.string gr] z fun e z' => e = .returned (.string (bs (txt gr.data.toList))) ∧ Below z.heap.size z z' := fun z hb => PackText.text_ref gr z (by show gr.size ≤ 140737488351232; omega)
  have s4 : (bs (txt gr.data.toList)).size ≤ 41 := by rw [bs_size]; exact l4
  have G5 : ∀ z, Below w.heap.size w z → Calls Try.prog 51 #[.string ap] z fun e z' => e = .returned (.string (bs (txt ap.data.toList))) ∧ Below z.heap.size z z' := fun z hb => PackText.text_ref ap z (by show ap.size ≤ 140737488351232; omega)
  have s5 : (bs (txt ap.data.toList)).size ≤ 41 := by rw [bs_size]; exact l5
  have G6 : ∀ z, Below w.heap.size w z → Calls Try.prog 48 #[.int .u64 (rk : Nat)] z fun e z' => e = .returned (.string (bs (num rk))) ∧ Below z.heap.size z z' := fun z hb => PackRefNum.number_ref rk z (by omega)
  have s6 : (bs (num rk)).size ≤ 9 := by rw [bs_size]; exact l6
  have eB : tsB nm h0 h1 h2 ls ts gr ap rk = (txt nm.data.toList) ++ (amB h0 h1 h2) ++ (prB ls) ++ (prB ts) ++ (txt gr.data.toList) ++ (txt ap.data.toList) ++ (num rk) := by rfl
  rw [eB, ← bs_append, ← bs_append, ← bs_append, ← bs_append, ← bs_append, ← bs_append]
  generalize bs (txt nm.data.toList) = q0 at *
  generalize bs (amB h0 h1 h2) = q1 at *
  generalize bs (prB ls) = q2 at *
  generalize bs (prB ts) = q3 at *
  generalize bs (txt gr.data.toList) = q4 at *
  generalize bs (txt ap.data.toList) = q5 at *
  generalize bs (num rk) = q6 at *
  have z1 : q0.size + q1.size ≤ 9223372036854775807 := by omega
  have z1' : ¬ 9223372036854775807 < q0.size + q1.size := by omega
  have y1 : q0.size + q1.size ≤ maxLen := by unfold maxLen; omega
  have z2 : q0.size + q1.size + q2.size ≤ 9223372036854775807 := by omega
  have z2' : ¬ 9223372036854775807 < q0.size + q1.size + q2.size := by omega
  have y2 : q0.size + q1.size + q2.size ≤ maxLen := by unfold maxLen; omega
  have z3 : q0.size + q1.size + q2.size + q3.size ≤ 9223372036854775807 := by omega
  have z3' : ¬ 9223372036854775807 < q0.size + q1.size + q2.size + q3.size := by omega
  have y3 : q0.size + q1.size + q2.size + q3.size ≤ maxLen := by unfold maxLen; omega
  have z4 : q0.size + q1.size + q2.size + q3.size + q4.size ≤ 9223372036854775807 := by omega
  have z4' : ¬ 9223372036854775807 < q0.size + q1.size + q2.size + q3.size + q4.size := by omega
  have y4 : q0.size + q1.size + q2.size + q3.size + q4.size ≤ maxLen := by unfold maxLen; omega
  have z5 : q0.size + q1.size + q2.size + q3.size + q4.size + q5.size ≤ 9223372036854775807 := by omega
  have z5' : ¬ 9223372036854775807 < q0.size + q1.size + q2.size + q3.size + q4.size + q5.size := by omega
  have y5 : q0.size + q1.size + q2.size + q3.size + q4.size + q5.size ≤ maxLen := by unfold maxLen; omega
  have z6 : q0.size + q1.size + q2.size + q3.size + q4.size + q5.size + q6.size ≤ 9223372036854775807 := by omega
  have z6' : ¬ 9223372036854775807 < q0.size + q1.size + q2.size + q3.size + q4.size + q5.size + q6.size := by omega
  have y6 : q0.size + q1.size + q2.size + q3.size + q4.size + q5.size + q6.size ≤ maxLen := by unfold maxLen; omega
  clear s0 l0 s1 l1 s2 l2 s3 l3 s4 l4 s5 l5 s6 l6 eB
  have L0 : Hid (∀ z, (z.cell? ⟨w.heap.size, 0, none⟩ = some (.string nm) ∧ z.cell? ⟨w.heap.size, 1, none⟩ = some (.int .i64 (h0 : Nat)) ∧ z.cell? ⟨w.heap.size, 2, none⟩ = some (.int .i64 (h1 : Nat)) ∧ z.cell? ⟨w.heap.size, 3, none⟩ = some (.int .i64 (h2 : Nat)) ∧ z.cell? ⟨w.heap.size, 4, none⟩ = some (.slice la ls.length lc) ∧ z.cell? ⟨w.heap.size, 5, none⟩ = some (.slice ta ts.length tc) ∧ z.cell? ⟨w.heap.size, 6, none⟩ = some (.string gr) ∧ z.cell? ⟨w.heap.size, 7, none⟩ = some (.string ap) ∧ z.cell? ⟨w.heap.size, 8, none⟩ = some (.int .i64 r) ∧ Hid (Below w.heap.size w z ∧ w.heap.size + 1 ≤ z.heap.size)) → ∀ z', Below z.heap.size z z' → (z'.cell? ⟨w.heap.size, 0, none⟩ = some (.string nm) ∧ z'.cell? ⟨w.heap.size, 1, none⟩ = some (.int .i64 (h0 : Nat)) ∧ z'.cell? ⟨w.heap.size, 2, none⟩ = some (.int .i64 (h1 : Nat)) ∧ z'.cell? ⟨w.heap.size, 3, none⟩ = some (.int .i64 (h2 : Nat)) ∧ z'.cell? ⟨w.heap.size, 4, none⟩ = some (.slice la ls.length lc) ∧ z'.cell? ⟨w.heap.size, 5, none⟩ = some (.slice ta ts.length tc) ∧ z'.cell? ⟨w.heap.size, 6, none⟩ = some (.string gr) ∧ z'.cell? ⟨w.heap.size, 7, none⟩ = some (.string ap) ∧ z'.cell? ⟨w.heap.size, 8, none⟩ = some (.int .i64 r) ∧ Hid (Below w.heap.size w z' ∧ w.heap.size + 1 ≤ z'.heap.size))) := by
    intro z h z' hb
    obtain ⟨a0, a1, a2, a3, a4, a5, a6, a7, a8, hS⟩ := h
    have hz := hS.out.2
    have k : ∀ j u, z.cell? ⟨w.heap.size, j, none⟩ = some u → z'.cell? ⟨w.heap.size, j, none⟩ = some u := fun j u hu => (hb.cell (by show w.heap.size < _; omega)).trans hu
    exact ⟨k _ _ a0, k _ _ a1, k _ _ a2, k _ _ a3, k _ _ a4, k _ _ a5, k _ _ a6, k _ _ a7, k _ _ a8, hS.out.1.trans (hb.mono (by omega)), by have := hb.size; omega⟩
  have KB : Hid (∀ z, (z.cell? ⟨w.heap.size, 0, none⟩ = some (.string nm) ∧ z.cell? ⟨w.heap.size, 1, none⟩ = some (.int .i64 (h0 : Nat)) ∧ z.cell? ⟨w.heap.size, 2, none⟩ = some (.int .i64 (h1 : Nat)) ∧ z.cell? ⟨w.heap.size, 3, none⟩ = some (.int .i64 (h2 : Nat)) ∧ z.cell? ⟨w.heap.size, 4, none⟩ = some (.slice la ls.length lc) ∧ z.cell? ⟨w.heap.size, 5, none⟩ = some (.slice ta ts.length tc) ∧ z.cell? ⟨w.heap.size, 6, none⟩ = some (.string gr) ∧ z.cell? ⟨w.heap.size, 7, none⟩ = some (.string ap) ∧ z.cell? ⟨w.heap.size, 8, none⟩ = some (.int .i64 r) ∧ Hid (Below w.heap.size w z ∧ w.heap.size + 1 ≤ z.heap.size)) → Below w.heap.size w z) := fun z h => h.2.2.2.2.2.2.2.2.2.out.1
  have K0 : Hid (∀ z, (z.cell? ⟨w.heap.size, 0, none⟩ = some (.string nm) ∧ z.cell? ⟨w.heap.size, 1, none⟩ = some (.int .i64 (h0 : Nat)) ∧ z.cell? ⟨w.heap.size, 2, none⟩ = some (.int .i64 (h1 : Nat)) ∧ z.cell? ⟨w.heap.size, 3, none⟩ = some (.int .i64 (h2 : Nat)) ∧ z.cell? ⟨w.heap.size, 4, none⟩ = some (.slice la ls.length lc) ∧ z.cell? ⟨w.heap.size, 5, none⟩ = some (.slice ta ts.length tc) ∧ z.cell? ⟨w.heap.size, 6, none⟩ = some (.string gr) ∧ z.cell? ⟨w.heap.size, 7, none⟩ = some (.string ap) ∧ z.cell? ⟨w.heap.size, 8, none⟩ = some (.int .i64 r) ∧ Hid (Below w.heap.size w z ∧ w.heap.size + 1 ≤ z.heap.size)) → Calls Try.prog 51 #[.string nm] z fun e z' => e = .returned (.string q0) ∧ (z'.cell? ⟨w.heap.size, 0, none⟩ = some (.string nm) ∧ z'.cell? ⟨w.heap.size, 1, none⟩ = some (.int .i64 (h0 : Nat)) ∧ z'.cell? ⟨w.heap.size, 2, none⟩ = some (.int .i64 (h1 : Nat)) ∧ z'.cell? ⟨w.heap.size, 3, none⟩ = some (.int .i64 (h2 : Nat)) ∧ z'.cell? ⟨w.heap.size, 4, none⟩ = some (.slice la ls.length lc) ∧ z'.cell? ⟨w.heap.size, 5, none⟩ = some (.slice ta ts.length tc) ∧ z'.cell? ⟨w.heap.size, 6, none⟩ = some (.string gr) ∧ z'.cell? ⟨w.heap.size, 7, none⟩ = some (.string ap) ∧ z'.cell? ⟨w.heap.size, 8, none⟩ = some (.int .i64 r) ∧ Hid (Below w.heap.size w z' ∧ w.heap.size + 1 ≤ z'.heap.size))) := fun z h => (G0 z h.2.2.2.2.2.2.2.2.2.out.1).mono fun e z' ⟨he, hb⟩ => ⟨he, L0.out z h z' hb⟩
  have K1 : Hid (∀ z, (z.cell? ⟨w.heap.size, 0, none⟩ = some (.string nm) ∧ z.cell? ⟨w.heap.size, 1, none⟩ = some (.int .i64 (h0 : Nat)) ∧ z.cell? ⟨w.heap.size, 2, none⟩ = some (.int .i64 (h1 : Nat)) ∧ z.cell? ⟨w.heap.size, 3, none⟩ = some (.int .i64 (h2 : Nat)) ∧ z.cell? ⟨w.heap.size, 4, none⟩ = some (.slice la ls.length lc) ∧ z.cell? ⟨w.heap.size, 5, none⟩ = some (.slice ta ts.length tc) ∧ z.cell? ⟨w.heap.size, 6, none⟩ = some (.string gr) ∧ z.cell? ⟨w.heap.size, 7, none⟩ = some (.string ap) ∧ z.cell? ⟨w.heap.size, 8, none⟩ = some (.int .i64 r) ∧ Hid (Below w.heap.size w z ∧ w.heap.size + 1 ≤ z.heap.size)) → Calls Try.prog 78 #[.agg #[.int .i64 (h0 : Nat), .int .i64 (h1 : Nat), .int .i64 (h2 : Nat)]] z fun e z' => e = .returned (.string q1) ∧ (z'.cell? ⟨w.heap.size, 0, none⟩ = some (.string nm) ∧ z'.cell? ⟨w.heap.size, 1, none⟩ = some (.int .i64 (h0 : Nat)) ∧ z'.cell? ⟨w.heap.size, 2, none⟩ = some (.int .i64 (h1 : Nat)) ∧ z'.cell? ⟨w.heap.size, 3, none⟩ = some (.int .i64 (h2 : Nat)) ∧ z'.cell? ⟨w.heap.size, 4, none⟩ = some (.slice la ls.length lc) ∧ z'.cell? ⟨w.heap.size, 5, none⟩ = some (.slice ta ts.length tc) ∧ z'.cell? ⟨w.heap.size, 6, none⟩ = some (.string gr) ∧ z'.cell? ⟨w.heap.size, 7, none⟩ = some (.string ap) ∧ z'.cell? ⟨w.heap.size, 8, none⟩ = some (.int .i64 r) ∧ Hid (Below w.heap.size w z' ∧ w.heap.size + 1 ≤ z'.heap.size))) := fun z h => (G1 z h.2.2.2.2.2.2.2.2.2.out.1).mono fun e z' ⟨he, hb⟩ => ⟨he, L0.out z h z' hb⟩
  have K2 : Hid (∀ z, (z.cell? ⟨w.heap.size, 0, none⟩ = some (.string nm) ∧ z.cell? ⟨w.heap.size, 1, none⟩ = some (.int .i64 (h0 : Nat)) ∧ z.cell? ⟨w.heap.size, 2, none⟩ = some (.int .i64 (h1 : Nat)) ∧ z.cell? ⟨w.heap.size, 3, none⟩ = some (.int .i64 (h2 : Nat)) ∧ z.cell? ⟨w.heap.size, 4, none⟩ = some (.slice la ls.length lc) ∧ z.cell? ⟨w.heap.size, 5, none⟩ = some (.slice ta ts.length tc) ∧ z.cell? ⟨w.heap.size, 6, none⟩ = some (.string gr) ∧ z.cell? ⟨w.heap.size, 7, none⟩ = some (.string ap) ∧ z.cell? ⟨w.heap.size, 8, none⟩ = some (.int .i64 r) ∧ Hid (Below w.heap.size w z ∧ w.heap.size + 1 ≤ z.heap.size)) → Calls Try.prog 79 #[.slice la ls.length lc] z fun e z' => e = .returned (.string q2) ∧ (z'.cell? ⟨w.heap.size, 0, none⟩ = some (.string nm) ∧ z'.cell? ⟨w.heap.size, 1, none⟩ = some (.int .i64 (h0 : Nat)) ∧ z'.cell? ⟨w.heap.size, 2, none⟩ = some (.int .i64 (h1 : Nat)) ∧ z'.cell? ⟨w.heap.size, 3, none⟩ = some (.int .i64 (h2 : Nat)) ∧ z'.cell? ⟨w.heap.size, 4, none⟩ = some (.slice la ls.length lc) ∧ z'.cell? ⟨w.heap.size, 5, none⟩ = some (.slice ta ts.length tc) ∧ z'.cell? ⟨w.heap.size, 6, none⟩ = some (.string gr) ∧ z'.cell? ⟨w.heap.size, 7, none⟩ = some (.string ap) ∧ z'.cell? ⟨w.heap.size, 8, none⟩ = some (.int .i64 r) ∧ Hid (Below w.heap.size w z' ∧ w.heap.size + 1 ≤ z'.heap.size))) := fun z h => (G2 z h.2.2.2.2.2.2.2.2.2.out.1).mono fun e z' ⟨he, hb⟩ => ⟨he, L0.out z h z' hb⟩
  have K3 : Hid (∀ z, (z.cell? ⟨w.heap.size, 0, none⟩ = some (.string nm) ∧ z.cell? ⟨w.heap.size, 1, none⟩ = some (.int .i64 (h0 : Nat)) ∧ z.cell? ⟨w.heap.size, 2, none⟩ = some (.int .i64 (h1 : Nat)) ∧ z.cell? ⟨w.heap.size, 3, none⟩ = some (.int .i64 (h2 : Nat)) ∧ z.cell? ⟨w.heap.size, 4, none⟩ = some (.slice la ls.length lc) ∧ z.cell? ⟨w.heap.size, 5, none⟩ = some (.slice ta ts.length tc) ∧ z.cell? ⟨w.heap.size, 6, none⟩ = some (.string gr) ∧ z.cell? ⟨w.heap.size, 7, none⟩ = some (.string ap) ∧ z.cell? ⟨w.heap.size, 8, none⟩ = some (.int .i64 r) ∧ Hid (Below w.heap.size w z ∧ w.heap.size + 1 ≤ z.heap.size)) → Calls Try.prog 79 #[.slice ta ts.length tc] z fun e z' => e = .returned (.string q3) ∧ (z'.cell? ⟨w.heap.size, 0, none⟩ = some (.string nm) ∧ z'.cell? ⟨w.heap.size, 1, none⟩ = some (.int .i64 (h0 : Nat)) ∧ z'.cell? ⟨w.heap.size, 2, none⟩ = some (.int .i64 (h1 : Nat)) ∧ z'.cell? ⟨w.heap.size, 3, none⟩ = some (.int .i64 (h2 : Nat)) ∧ z'.cell? ⟨w.heap.size, 4, none⟩ = some (.slice la ls.length lc) ∧ z'.cell? ⟨w.heap.size, 5, none⟩ = some (.slice ta ts.length tc) ∧ z'.cell? ⟨w.heap.size, 6, none⟩ = some (.string gr) ∧ z'.cell? ⟨w.heap.size, 7, none⟩ = some (.string ap) ∧ z'.cell? ⟨w.heap.size, 8, none⟩ = some (.int .i64 r) ∧ Hid (Below w.heap.size w z' ∧ w.heap.size + 1 ≤ z'.heap.size))) := fun z h => (G3 z h.2.2.2.2.2.2.2.2.2.out.1).mono fun e z' ⟨he, hb⟩ => ⟨he, L0.out z h z' hb⟩
  have K4 : Hid (∀ z, (z.cell? ⟨w.heap.size, 0, none⟩ = some (.string nm) ∧ z.cell? ⟨w.heap.size, 1, none⟩ = some (.int .i64 (h0 : Nat)) ∧ z.cell? ⟨w.heap.size, 2, none⟩ = some (.int .i64 (h1 : Nat)) ∧ z.cell? ⟨w.heap.size, 3, none⟩ = some (.int .i64 (h2 : Nat)) ∧ z.cell? ⟨w.heap.size, 4, none⟩ = some (.slice la ls.length lc) ∧ z.cell? ⟨w.heap.size, 5, none⟩ = some (.slice ta ts.length tc) ∧ z.cell? ⟨w.heap.size, 6, none⟩ = some (.string gr) ∧ z.cell? ⟨w.heap.size, 7, none⟩ = some (.string ap) ∧ z.cell? ⟨w.heap.size, 8, none⟩ = some (.int .i64 r) ∧ Hid (Below w.heap.size w z ∧ w.heap.size + 1 ≤ z.heap.size)) → Calls Try.prog 51 #[.string gr] z fun e z' => e = .returned (.string q4) ∧ (z'.cell? ⟨w.heap.size, 0, none⟩ = some (.string nm) ∧ z'.cell? ⟨w.heap.size, 1, none⟩ = some (.int .i64 (h0 : Nat)) ∧ z'.cell? ⟨w.heap.size, 2, none⟩ = some (.int .i64 (h1 : Nat)) ∧ z'.cell? ⟨w.heap.size, 3, none⟩ = some (.int .i64 (h2 : Nat)) ∧ z'.cell? ⟨w.heap.size, 4, none⟩ = some (.slice la ls.length lc) ∧ z'.cell? ⟨w.heap.size, 5, none⟩ = some (.slice ta ts.length tc) ∧ z'.cell? ⟨w.heap.size, 6, none⟩ = some (.string gr) ∧ z'.cell? ⟨w.heap.size, 7, none⟩ = some (.string ap) ∧ z'.cell? ⟨w.heap.size, 8, none⟩ = some (.int .i64 r) ∧ Hid (Below w.heap.size w z' ∧ w.heap.size + 1 ≤ z'.heap.size))) := fun z h => (G4 z h.2.2.2.2.2.2.2.2.2.out.1).mono fun e z' ⟨he, hb⟩ => ⟨he, L0.out z h z' hb⟩
  have K5 : Hid (∀ z, (z.cell? ⟨w.heap.size, 0, none⟩ = some (.string nm) ∧ z.cell? ⟨w.heap.size, 1, none⟩ = some (.int .i64 (h0 : Nat)) ∧ z.cell? ⟨w.heap.size, 2, none⟩ = some (.int .i64 (h1 : Nat)) ∧ z.cell? ⟨w.heap.size, 3, none⟩ = some (.int .i64 (h2 : Nat)) ∧ z.cell? ⟨w.heap.size, 4, none⟩ = some (.slice la ls.length lc) ∧ z.cell? ⟨w.heap.size, 5, none⟩ = some (.slice ta ts.length tc) ∧ z.cell? ⟨w.heap.size, 6, none⟩ = some (.string gr) ∧ z.cell? ⟨w.heap.size, 7, none⟩ = some (.string ap) ∧ z.cell? ⟨w.heap.size, 8, none⟩ = some (.int .i64 r) ∧ Hid (Below w.heap.size w z ∧ w.heap.size + 1 ≤ z.heap.size)) → Calls Try.prog 51 #[.string ap] z fun e z' => e = .returned (.string q5) ∧ (z'.cell? ⟨w.heap.size, 0, none⟩ = some (.string nm) ∧ z'.cell? ⟨w.heap.size, 1, none⟩ = some (.int .i64 (h0 : Nat)) ∧ z'.cell? ⟨w.heap.size, 2, none⟩ = some (.int .i64 (h1 : Nat)) ∧ z'.cell? ⟨w.heap.size, 3, none⟩ = some (.int .i64 (h2 : Nat)) ∧ z'.cell? ⟨w.heap.size, 4, none⟩ = some (.slice la ls.length lc) ∧ z'.cell? ⟨w.heap.size, 5, none⟩ = some (.slice ta ts.length tc) ∧ z'.cell? ⟨w.heap.size, 6, none⟩ = some (.string gr) ∧ z'.cell? ⟨w.heap.size, 7, none⟩ = some (.string ap) ∧ z'.cell? ⟨w.heap.size, 8, none⟩ = some (.int .i64 r) ∧ Hid (Below w.heap.size w z' ∧ w.heap.size + 1 ≤ z'.heap.size))) := fun z h => (G5 z h.2.2.2.2.2.2.2.2.2.out.1).mono fun e z' ⟨he, hb⟩ => ⟨he, L0.out z h z' hb⟩
  have K6 : Hid (∀ z, (z.cell? ⟨w.heap.size, 0, none⟩ = some (.string nm) ∧ z.cell? ⟨w.heap.size, 1, none⟩ = some (.int .i64 (h0 : Nat)) ∧ z.cell? ⟨w.heap.size, 2, none⟩ = some (.int .i64 (h1 : Nat)) ∧ z.cell? ⟨w.heap.size, 3, none⟩ = some (.int .i64 (h2 : Nat)) ∧ z.cell? ⟨w.heap.size, 4, none⟩ = some (.slice la ls.length lc) ∧ z.cell? ⟨w.heap.size, 5, none⟩ = some (.slice ta ts.length tc) ∧ z.cell? ⟨w.heap.size, 6, none⟩ = some (.string gr) ∧ z.cell? ⟨w.heap.size, 7, none⟩ = some (.string ap) ∧ z.cell? ⟨w.heap.size, 8, none⟩ = some (.int .i64 r) ∧ Hid (Below w.heap.size w z ∧ w.heap.size + 1 ≤ z.heap.size)) → Calls Try.prog 48 #[.int .u64 (rk : Nat)] z fun e z' => e = .returned (.string q6) ∧ (z'.cell? ⟨w.heap.size, 0, none⟩ = some (.string nm) ∧ z'.cell? ⟨w.heap.size, 1, none⟩ = some (.int .i64 (h0 : Nat)) ∧ z'.cell? ⟨w.heap.size, 2, none⟩ = some (.int .i64 (h1 : Nat)) ∧ z'.cell? ⟨w.heap.size, 3, none⟩ = some (.int .i64 (h2 : Nat)) ∧ z'.cell? ⟨w.heap.size, 4, none⟩ = some (.slice la ls.length lc) ∧ z'.cell? ⟨w.heap.size, 5, none⟩ = some (.slice ta ts.length tc) ∧ z'.cell? ⟨w.heap.size, 6, none⟩ = some (.string gr) ∧ z'.cell? ⟨w.heap.size, 7, none⟩ = some (.string ap) ∧ z'.cell? ⟨w.heap.size, 8, none⟩ = some (.int .i64 r) ∧ Hid (Below w.heap.size w z' ∧ w.heap.size + 1 ≤ z'.heap.size))) := fun z h => (G6 z h.2.2.2.2.2.2.2.2.2.out.1).mono fun e z' ⟨he, hb⟩ => ⟨he, L0.out z h z' hb⟩
  have KD : Hid (((w.alloc (.cells #[.string nm, .int .i64 (h0 : Nat), .int .i64 (h1 : Nat), .int .i64 (h2 : Nat), .slice la ls.length lc, .slice ta ts.length tc, .string gr, .string ap, .int .i64 r] 29)).drew).cell? ⟨w.heap.size, 0, none⟩ = some (.string nm) ∧ ((w.alloc (.cells #[.string nm, .int .i64 (h0 : Nat), .int .i64 (h1 : Nat), .int .i64 (h2 : Nat), .slice la ls.length lc, .slice ta ts.length tc, .string gr, .string ap, .int .i64 r] 29)).drew).cell? ⟨w.heap.size, 1, none⟩ = some (.int .i64 (h0 : Nat)) ∧ ((w.alloc (.cells #[.string nm, .int .i64 (h0 : Nat), .int .i64 (h1 : Nat), .int .i64 (h2 : Nat), .slice la ls.length lc, .slice ta ts.length tc, .string gr, .string ap, .int .i64 r] 29)).drew).cell? ⟨w.heap.size, 2, none⟩ = some (.int .i64 (h1 : Nat)) ∧ ((w.alloc (.cells #[.string nm, .int .i64 (h0 : Nat), .int .i64 (h1 : Nat), .int .i64 (h2 : Nat), .slice la ls.length lc, .slice ta ts.length tc, .string gr, .string ap, .int .i64 r] 29)).drew).cell? ⟨w.heap.size, 3, none⟩ = some (.int .i64 (h2 : Nat)) ∧ ((w.alloc (.cells #[.string nm, .int .i64 (h0 : Nat), .int .i64 (h1 : Nat), .int .i64 (h2 : Nat), .slice la ls.length lc, .slice ta ts.length tc, .string gr, .string ap, .int .i64 r] 29)).drew).cell? ⟨w.heap.size, 4, none⟩ = some (.slice la ls.length lc) ∧ ((w.alloc (.cells #[.string nm, .int .i64 (h0 : Nat), .int .i64 (h1 : Nat), .int .i64 (h2 : Nat), .slice la ls.length lc, .slice ta ts.length tc, .string gr, .string ap, .int .i64 r] 29)).drew).cell? ⟨w.heap.size, 5, none⟩ = some (.slice ta ts.length tc) ∧ ((w.alloc (.cells #[.string nm, .int .i64 (h0 : Nat), .int .i64 (h1 : Nat), .int .i64 (h2 : Nat), .slice la ls.length lc, .slice ta ts.length tc, .string gr, .string ap, .int .i64 r] 29)).drew).cell? ⟨w.heap.size, 6, none⟩ = some (.string gr) ∧ ((w.alloc (.cells #[.string nm, .int .i64 (h0 : Nat), .int .i64 (h1 : Nat), .int .i64 (h2 : Nat), .slice la ls.length lc, .slice ta ts.length tc, .string gr, .string ap, .int .i64 r] 29)).drew).cell? ⟨w.heap.size, 7, none⟩ = some (.string ap) ∧ ((w.alloc (.cells #[.string nm, .int .i64 (h0 : Nat), .int .i64 (h1 : Nat), .int .i64 (h2 : Nat), .slice la ls.length lc, .slice ta ts.length tc, .string gr, .string ap, .int .i64 r] 29)).drew).cell? ⟨w.heap.size, 8, none⟩ = some (.int .i64 r) ∧ Hid (Below w.heap.size w ((w.alloc (.cells #[.string nm, .int .i64 (h0 : Nat), .int .i64 (h1 : Nat), .int .i64 (h2 : Nat), .slice la ls.length lc, .slice ta ts.length tc, .string gr, .string ap, .int .i64 r] 29)).drew) ∧ w.heap.size + 1 ≤ ((w.alloc (.cells #[.string nm, .int .i64 (h0 : Nat), .int .i64 (h1 : Nat), .int .i64 (h2 : Nat), .slice la ls.length lc, .slice ta ts.length tc, .string gr, .string ap, .int .i64 r] 29)).drew).heap.size)) := ⟨by simp [go_sem], by simp [go_sem], by simp [go_sem], by simp [go_sem], by simp [go_sem], by simp [go_sem], by simp [go_sem], by simp [go_sem], by simp [go_sem], ((Below.refl _ _).alloc (Nat.le_refl _) _).drew, by show _ ≤ (w.alloc _).heap.size; simp⟩
  clear G0 G1 G2 G3 G4 G5 G6 L0
  go_enter Try.func50, Try.ntmps50
  go_wp2
  go_region_held3 (fun z => z.cell? ⟨w.heap.size, 0, none⟩ = some (.string nm) ∧ z.cell? ⟨w.heap.size, 1, none⟩ = some (.int .i64 (h0 : Nat)) ∧ z.cell? ⟨w.heap.size, 2, none⟩ = some (.int .i64 (h1 : Nat)) ∧ z.cell? ⟨w.heap.size, 3, none⟩ = some (.int .i64 (h2 : Nat)) ∧ z.cell? ⟨w.heap.size, 4, none⟩ = some (.slice la ls.length lc) ∧ z.cell? ⟨w.heap.size, 5, none⟩ = some (.slice ta ts.length tc) ∧ z.cell? ⟨w.heap.size, 6, none⟩ = some (.string gr) ∧ z.cell? ⟨w.heap.size, 7, none⟩ = some (.string ap) ∧ z.cell? ⟨w.heap.size, 8, none⟩ = some (.int .i64 r) ∧ Hid (Below w.heap.size w z ∧ w.heap.size + 1 ≤ z.heap.size)) (first | assumption | exact KD.out)
    (first
      | (go_at_call 51; (with_reducible refine (K0.out _ ?_).mono ?_); assumption; rintro e w7 ⟨rfl, hS⟩)
      | (go_at_call 78; (with_reducible refine (K1.out _ ?_).mono ?_); assumption; rintro e w7 ⟨rfl, hS⟩)
      | (go_at_call 79; (with_reducible refine (K2.out _ ?_).mono ?_); assumption; rintro e w7 ⟨rfl, hS⟩)
      | (go_at_call 79; (with_reducible refine (K3.out _ ?_).mono ?_); assumption; rintro e w7 ⟨rfl, hS⟩)
      | (go_at_call 51; (with_reducible refine (K4.out _ ?_).mono ?_); assumption; rintro e w7 ⟨rfl, hS⟩)
      | (go_at_call 51; (with_reducible refine (K5.out _ ?_).mono ?_); assumption; rintro e w7 ⟨rfl, hS⟩)
      | (go_at_call 48; (with_reducible refine (K6.out _ ?_).mono ?_); assumption; rintro e w7 ⟨rfl, hS⟩))
  all_goals
    go_wp2
    go_ret
    exact ⟨rfl, KB.out _ hS⟩
end Hd
end Go.Proofs.Ythlchdlgafincaa

/-
  A COMMAND's bytes, by the document: gafferref09.Bytes, Encode.
-/
namespace Go.Proofs.Ythlchdlgafincaa
open Go.RowKit
namespace Hd
open PM Hc
theorem ck_nd {C : Cd} (h : CkForm C) (hk : C.k = 1) : SmN C.nd := by
  cases h with
  | node cl sq nd h => exact nE_small h
  | task => cases hk
  | bind => cases hk
  | name cl sq k na hk2 => simp only at hk; omega
theorem ck_td {C : Cd} (h : CkForm C) (hk : C.k = 3) : SmT C.td := by
  cases h with
  | node => cases hk
  | task cl sq td h => exact tE_small h
  | bind => cases hk
  | name cl sq k na hk2 => simp only at hk; omega
theorem ck_na {C : Cd} (h : CkForm C) (k1 : C.k ≠ 1) (k3 : C.k ≠ 3) : C.na.size ≤ 32 := by
  cases h with
  | node => exact absurd rfl k1
  | task => exact absurd rfl k3
  | bind cl sq na on fe h1 h2 => exact nm_small h1
  | name cl sq k na hk2 h1 => exact nm_small h1
theorem ck_on {C : Cd} (h : CkForm C) (k5 : C.k = 5) : C.on.size ≤ 32 := by
  cases h with
  | node => cases k5
  | task => cases k5
  | bind cl sq na on fe h1 h2 => exact nm_small h2
  | name cl sq k na hk2 h1 => simp only at k5; omega
theorem nodeY_ref (n : Nd) (la ta : Option Addr) (lc tc : Nat) (w : World) (h : SmN n) (hl : Rg.Pairs w w.heap.size (.slice la n.ls.length lc) n.ls) (ht : Rg.Pairs w w.heap.size (.slice ta n.ts.length tc) n.ts) :
    Calls Try.prog 49 #[.agg #[.string n.n, .int .i64 n.z0, .int .i64 n.z1, .int .i64 n.z2, .slice la n.ls.length lc, .slice ta n.ts.length tc]] w fun e w' => e = .returned (.string (bs (ndY n))) ∧ Below w.heap.size w w' := by
  have := nodeB_ref n.n n.z0.toNat n.z1.toNat n.z2.toNat la ta lc tc n.ls n.ts w h.nm h.z0.bk.1 h.z1.bk.1 h.z2.bk.1 hl ht h.ls h.ts
  rw [h.z0.bk.2, h.z1.bk.2, h.z2.bk.2] at this
  exact this
theorem taskY_ref (n : Td) (la ta : Option Addr) (lc tc : Nat) (w : World) (h : SmT n) (hl : Rg.Pairs w w.heap.size (.slice la n.ws.length lc) n.ws) (ht : Rg.Pairs w w.heap.size (.slice ta n.bs.length tc) n.bs) :
    Calls Try.prog 50 #[.agg #[.string n.n, .int .i64 n.z0, .int .i64 n.z1, .int .i64 n.z2, .slice la n.ws.length lc, .slice ta n.bs.length tc, .string n.g, .string n.a, .int .i64 n.r]] w fun e w' => e = .returned (.string (bs (tdY n))) ∧ Below w.heap.size w w' := by
  have := taskB_ref n.n n.z0.toNat n.z1.toNat n.z2.toNat la ta lc tc n.ws n.bs n.g n.a n.r (n.r + 1000).toNat w h.nm h.z0.bk.1 h.z1.bk.1 h.z2.bk.1 hl ht h.ws h.bs h.g h.a (by have := h.r; omega) (by have := h.r; omega)
  rw [h.z0.bk.2, h.z1.bk.2, h.z2.bk.2] at this
  exact this
theorem named_no (k : Int) (h : k = 1 ∨ k = 3) (w : World) : Calls Try.prog 31 #[.int .u8 k] w fun e w' => e = .returned (.bool false) ∧ w = w' := by
  rcases h with rfl | rfl
  all_goals
    go_enter Try.func31, Try.ntmps31
    go_wp2
    go_ret
    exact ⟨rfl, rfl⟩
theorem named_yes (k : Int) (h1 : ¬ k = 1) (h3 : ¬ k = 3) (w : World) : Calls Try.prog 31 #[.int .u8 k] w fun e w' => e = .returned (.bool true) ∧ w = w' := by
  have m1 : (k != 1) = true := by simpa using h1
  have m3 : (k != 3) = true := by simpa using h3
  go_enter Try.func31, Try.ntmps31
  go_wp2
  go_ret
  exact ⟨rfl, rfl⟩
set_option maxRecDepth 100000 in
set_option maxHeartbeats 8000000 in
theorem bytes_ref9 (C : Cd) (v2 v3 v4 v5 : Value) (w : World) (hp : PrsIn w w.heap.size C v2 v3 v4 v5) (hf : CkForm C) (hb : Bnd C) :
    Calls Try.prog 24 #[.agg (cdC C v2 v3 v4 v5).toArray] w fun e w' => e = .returned (.string (bs (cmY C))) ∧ Below w.heap.size w w' := by
  have HB0 : Hid (Below w.heap.size w (w.alloc (.cells (cdC C v2 v3 v4 v5).toArray 33))) := (Below.refl _ _).alloc (Nat.le_refl _) _
  have HX0 : Hid (Bxn (w.alloc (.cells (cdC C v2 v3 v4 v5).toArray 33)) w.heap.size (cdC C v2 v3 v4 v5)) := Bxn.made w _ _
  have hsz : (w.alloc (.cells (cdC C v2 v3 v4 v5).toArray 33)).heap.size = w.heap.size + 1 := by simp
  have hm1 : Bb w (cdC C v2 v3 v4 v5) [.int .u8 0, .string ⟨#[]⟩, .int .i64 0, .int .i64 0, .int .i64 0, .slice none 0 0, .slice none 0 0, .string ⟨#[]⟩, .int .i64 0, .int .i64 0, .int .i64 0, .slice none 0 0, .slice none 0 0, .string ⟨#[]⟩, .string ⟨#[]⟩, .int .i64 0, .string ⟨#[]⟩, .string ⟨#[]⟩, .int .u64 0] ((w.alloc (.cells (cdC C v2 v3 v4 v5).toArray 33)).alloc (.cells #[.int .u8 0, .string ⟨#[]⟩, .int .i64 0, .int .i64 0, .int .i64 0, .slice none 0 0, .slice none 0 0, .string ⟨#[]⟩, .int .i64 0, .int .i64 0, .int .i64 0, .slice none 0 0, .slice none 0 0, .string ⟨#[]⟩, .string ⟨#[]⟩, .int .i64 0, .string ⟨#[]⟩, .string ⟨#[]⟩, .int .u64 0] 31)) := Bb.made2 w _ _ _ _
  have HB1 := Lib.hid (hm1.all2 (orC C v2 v3 v4 v5) rfl)
  have hth := hm1.bz.there 19 rfl
  have hp0 := hp
  obtain ⟨⟨a2, c2, rfl, -⟩, ⟨a3, c3, rfl, -⟩, ⟨a4, c4, rfl, -⟩, ⟨a5, c5, rfl, -⟩⟩ := hp
  have KN : Hid (C.k = 1 → ∀ z, Below w.heap.size w z → Calls Try.prog 49 #[.agg #[.string C.nd.n, .int .i64 C.nd.z0, .int .i64 C.nd.z1, .int .i64 C.nd.z2, .slice a2 C.nd.ls.length c2, .slice a3 C.nd.ts.length c3]] z fun e w' => e = .returned (.string (bs (ndY C.nd))) ∧ Below z.heap.size z w') := fun hk z hz => nodeY_ref C.nd _ _ _ _ z (ck_nd hf hk) (hp0.h2.ovr hz) (hp0.h3.ovr hz)
  have KT : Hid (C.k = 3 → ∀ z, Below w.heap.size w z → Calls Try.prog 50 #[.agg #[.string C.td.n, .int .i64 C.td.z0, .int .i64 C.td.z1, .int .i64 C.td.z2, .slice a4 C.td.ws.length c4, .slice a5 C.td.bs.length c5, .string C.td.g, .string C.td.a, .int .i64 C.td.r]] z fun e w' => e = .returned (.string (bs (tdY C.td))) ∧ Below z.heap.size z w') := fun hk z hz => taskY_ref C.td _ _ _ _ z (ck_td hf hk) (hp0.h4.ovr hz) (hp0.h5.ovr hz)
  have HNA := Lib.hid (ck_na hf)
  have HON := Lib.hid (ck_on hf)
  have hlen := cmY_le hf hb
  have hY : cmY C = num C.cl ++ num C.sq ++ num C.k ++ fdY C := rfl
  have n1 := num_le C.cl hb.cl
  have n2 := num_le C.sq hb.sq
  have n3 := num_le C.k (by have := hb.k; omega)
  have hfl : (fdY C).length ≤ 4096 := by rw [hY, List.length_append] at hlen; omega
  have hfd : fdY C = if C.k = 1 then ndY C.nd else if C.k = 3 then tdY C.td else if C.k = 5 then txt C.na.data.toList ++ txt C.on.data.toList ++ num C.fe else txt C.na.data.toList := rfl
  have eB : bs (cmY C) = bs (num C.cl) ++ bs (num C.sq) ++ bs (num C.k) ++ bs (fdY C) := by rw [hY, ← bs_append, ← bs_append, ← bs_append]
  have s1 : (bs (num C.cl)).size ≤ 9 := by rw [bs_size]; exact n1
  have s2 : (bs (num C.sq)).size ≤ 9 := by rw [bs_size]; exact n2
  have s3 : (bs (num C.k)).size ≤ 9 := by rw [bs_size]; exact n3
  have s4 : (bs (fdY C)).size ≤ 4096 := by rw [bs_size]; exact hfl
  have hfe := hb.fe
  have g1 := fun z => PackRefNum.number_ref C.cl z hb.cl
  have g2 := fun z => PackRefNum.number_ref C.sq z hb.sq
  have g3 := fun z => PackRefNum.number_ref C.k z (by have := hb.k; omega)
  have g4 := fun z => PackRefNum.number_ref C.fe z hb.fe
  have tk : IntKind.u64.wrap ((C.k : Nat) : Int) = ((C.k : Nat) : Int) := by rw [IntKind.wrap_u64]; have := hb.k; omega
  have tk8 : IntKind.u8.wrap ((C.k : Nat) : Int) = ((C.k : Nat) : Int) := by rw [IntKind.wrap_u8]; have := hb.k; omega
  clear hp0 hm1 hf hb hlen hY n1 n2 n3 hfl
  rw [eB]
  clear eB
  have HFD := Lib.hid hfd
  have HG4 := Lib.hid g4
  have HFE := Lib.hid hfe
  clear hfd g4 hfe
  generalize bs (num C.cl) = q1 at *
  generalize bs (num C.sq) = q2 at *
  generalize bs (num C.k) = q3 at *
  have z1 : q1.size + q2.size ≤ 9223372036854775807 := by omega
  have z2 : q1.size + q2.size + q3.size ≤ 9223372036854775807 := by omega
  have z1' : ¬ 9223372036854775807 < q1.size + q2.size := by omega
  have z2' : ¬ 9223372036854775807 < q1.size + q2.size + q3.size := by omega
  have y1 : q1.size + q2.size ≤ maxLen := by unfold maxLen; omega
  have y2 : q1.size + q2.size + q3.size ≤ maxLen := by unfold maxLen; omega
  have hone := all_oneCell_toArray (orC_one C (.slice a2 C.nd.ls.length c2) (.slice a3 C.nd.ts.length c3) (.slice a4 C.td.ws.length c4) (.slice a5 C.td.bs.length c5) rfl rfl rfl rfl)
  obtain ⟨CS, hCS⟩ : ∃ CS, CS = (cdC C (.slice a2 C.nd.ls.length c2) (.slice a3 C.nd.ts.length c3) (.slice a4 C.td.ws.length c4) (.slice a5 C.td.bs.length c5)).toArray := ⟨_, rfl⟩
  rw [← hCS] at HB0 HX0 HB1 hth hsz ⊢
  clear hCS
  go_enter Try.func24, Try.ntmps24
  go_upto_region 1 with fail
  generalize Value.agg CS = A0
  generalize w.alloc (.cells CS 33) = W0 at *
  have R0 := Lib.hid (HX0.out.range 2)
  refine wp_region_list ?_
  refine wpList_plain rfl fun K hK => ?_
  go_simp
  refine hK _ _ ?_
  clear hK K
  refine wpList_load_mid rfl 31 (.tmp 5) rfl w.heap.size 2 rfl (orC C (.slice a2 C.nd.ls.length c2) (.slice a3 C.nd.ts.length c3) (.slice a4 C.td.ws.length c4) (.slice a5 C.td.bs.length c5)) _ R0.out Try.underlying31 rfl rfl ?_
  refine wpList_plain rfl fun K hK => ?_
  go_simp
  refine hK _ _ ?_
  clear hK K
  refine wpList_store_mid rfl 31 (.tmp 3) (.tmp 6) rfl (w.heap.size + 1) 0 (orC C (.slice a2 C.nd.ls.length c2) (.slice a3 C.nd.ts.length c3) (.slice a4 C.td.ws.length c4) (.slice a5 C.td.bs.length c5)).toArray rfl rfl hth rfl hone ?_
  clear hth hone HX0 HB0 R0
  rw [show (orC C (.slice a2 C.nd.ls.length c2) (.slice a3 C.nd.ts.length c3) (.slice a4 C.td.ws.length c4) (.slice a5 C.td.bs.length c5)).toArray.toList = orC C (.slice a2 C.nd.ls.length c2) (.slice a3 C.nd.ts.length c3) (.slice a4 C.td.ws.length c4) (.slice a5 C.td.bs.length c5) from rfl]
  generalize (W0.alloc (.cells #[.int .u8 0, .string ⟨#[]⟩, .int .i64 0, .int .i64 0, .int .i64 0, .slice none 0 0, .slice none 0 0, .string ⟨#[]⟩, .int .i64 0, .int .i64 0, .int .i64 0, .slice none 0 0, .slice none 0 0, .string ⟨#[]⟩, .string ⟨#[]⟩, .int .i64 0, .string ⟨#[]⟩, .string ⟨#[]⟩, .int .u64 0] 31)).setCells (w.heap.size + 1) 0 (orC C (.slice a2 C.nd.ls.length c2) (.slice a3 C.nd.ts.length c3) (.slice a4 C.td.ws.length c4) (.slice a5 C.td.bs.length c5)) = W1 at *
  generalize Value.agg (orC C (.slice a2 C.nd.ls.length c2) (.slice a3 C.nd.ts.length c3) (.slice a4 C.td.ws.length c4) (.slice a5 C.td.bs.length c5)).toArray = A1
  clear hsz
  have L0 : Hid (∀ z, (z.cell? ⟨w.heap.size, 0, none⟩ = some (.int .u64 (C.cl : Nat)) ∧ z.cell? ⟨w.heap.size, 1, none⟩ = some (.int .u64 (C.sq : Nat)) ∧ z.cell? ⟨w.heap.size + 1, 0, none⟩ = some (.int .u8 (C.k : Nat)) ∧ Hid (Bb w (cdC C (.slice a2 C.nd.ls.length c2) (.slice a3 C.nd.ts.length c3) (.slice a4 C.td.ws.length c4) (.slice a5 C.td.bs.length c5)) (orC C (.slice a2 C.nd.ls.length c2) (.slice a3 C.nd.ts.length c3) (.slice a4 C.td.ws.length c4) (.slice a5 C.td.bs.length c5)) z)) → ∀ z', Below z.heap.size z z' → (z'.cell? ⟨w.heap.size, 0, none⟩ = some (.int .u64 (C.cl : Nat)) ∧ z'.cell? ⟨w.heap.size, 1, none⟩ = some (.int .u64 (C.sq : Nat)) ∧ z'.cell? ⟨w.heap.size + 1, 0, none⟩ = some (.int .u8 (C.k : Nat)) ∧ Hid (Bb w (cdC C (.slice a2 C.nd.ls.length c2) (.slice a3 C.nd.ts.length c3) (.slice a4 C.td.ws.length c4) (.slice a5 C.td.bs.length c5)) (orC C (.slice a2 C.nd.ls.length c2) (.slice a3 C.nd.ts.length c3) (.slice a4 C.td.ws.length c4) (.slice a5 C.td.bs.length c5)) z'))) := by
    intro z h z' hb
    have hB := h.2.2.2.out.below hb
    exact ⟨hB.bx.cell 0, hB.bx.cell 1, hB.bz.cell 0, hB⟩
  have KB : Hid (∀ z, (z.cell? ⟨w.heap.size, 0, none⟩ = some (.int .u64 (C.cl : Nat)) ∧ z.cell? ⟨w.heap.size, 1, none⟩ = some (.int .u64 (C.sq : Nat)) ∧ z.cell? ⟨w.heap.size + 1, 0, none⟩ = some (.int .u8 (C.k : Nat)) ∧ Hid (Bb w (cdC C (.slice a2 C.nd.ls.length c2) (.slice a3 C.nd.ts.length c3) (.slice a4 C.td.ws.length c4) (.slice a5 C.td.bs.length c5)) (orC C (.slice a2 C.nd.ls.length c2) (.slice a3 C.nd.ts.length c3) (.slice a4 C.td.ws.length c4) (.slice a5 C.td.bs.length c5)) z)) → Bb w (cdC C (.slice a2 C.nd.ls.length c2) (.slice a3 C.nd.ts.length c3) (.slice a4 C.td.ws.length c4) (.slice a5 C.td.bs.length c5)) (orC C (.slice a2 C.nd.ls.length c2) (.slice a3 C.nd.ts.length c3) (.slice a4 C.td.ws.length c4) (.slice a5 C.td.bs.length c5)) z) := fun z h => h.2.2.2.out
  have K1 : Hid (∀ z, (z.cell? ⟨w.heap.size, 0, none⟩ = some (.int .u64 (C.cl : Nat)) ∧ z.cell? ⟨w.heap.size, 1, none⟩ = some (.int .u64 (C.sq : Nat)) ∧ z.cell? ⟨w.heap.size + 1, 0, none⟩ = some (.int .u8 (C.k : Nat)) ∧ Hid (Bb w (cdC C (.slice a2 C.nd.ls.length c2) (.slice a3 C.nd.ts.length c3) (.slice a4 C.td.ws.length c4) (.slice a5 C.td.bs.length c5)) (orC C (.slice a2 C.nd.ls.length c2) (.slice a3 C.nd.ts.length c3) (.slice a4 C.td.ws.length c4) (.slice a5 C.td.bs.length c5)) z)) → Calls Try.prog 48 #[.int .u64 (C.cl : Nat)] z fun e z' => e = .returned (.string q1) ∧ (z'.cell? ⟨w.heap.size, 0, none⟩ = some (.int .u64 (C.cl : Nat)) ∧ z'.cell? ⟨w.heap.size, 1, none⟩ = some (.int .u64 (C.sq : Nat)) ∧ z'.cell? ⟨w.heap.size + 1, 0, none⟩ = some (.int .u8 (C.k : Nat)) ∧ Hid (Bb w (cdC C (.slice a2 C.nd.ls.length c2) (.slice a3 C.nd.ts.length c3) (.slice a4 C.td.ws.length c4) (.slice a5 C.td.bs.length c5)) (orC C (.slice a2 C.nd.ls.length c2) (.slice a3 C.nd.ts.length c3) (.slice a4 C.td.ws.length c4) (.slice a5 C.td.bs.length c5)) z'))) := fun z h => (g1 z).mono fun e z' ⟨he, hb⟩ => ⟨he, L0.out z h z' hb⟩
  have K2 : Hid (∀ z, (z.cell? ⟨w.heap.size, 0, none⟩ = some (.int .u64 (C.cl : Nat)) ∧ z.cell? ⟨w.heap.size, 1, none⟩ = some (.int .u64 (C.sq : Nat)) ∧ z.cell? ⟨w.heap.size + 1, 0, none⟩ = some (.int .u8 (C.k : Nat)) ∧ Hid (Bb w (cdC C (.slice a2 C.nd.ls.length c2) (.slice a3 C.nd.ts.length c3) (.slice a4 C.td.ws.length c4) (.slice a5 C.td.bs.length c5)) (orC C (.slice a2 C.nd.ls.length c2) (.slice a3 C.nd.ts.length c3) (.slice a4 C.td.ws.length c4) (.slice a5 C.td.bs.length c5)) z)) → Calls Try.prog 48 #[.int .u64 (C.sq : Nat)] z fun e z' => e = .returned (.string q2) ∧ (z'.cell? ⟨w.heap.size, 0, none⟩ = some (.int .u64 (C.cl : Nat)) ∧ z'.cell? ⟨w.heap.size, 1, none⟩ = some (.int .u64 (C.sq : Nat)) ∧ z'.cell? ⟨w.heap.size + 1, 0, none⟩ = some (.int .u8 (C.k : Nat)) ∧ Hid (Bb w (cdC C (.slice a2 C.nd.ls.length c2) (.slice a3 C.nd.ts.length c3) (.slice a4 C.td.ws.length c4) (.slice a5 C.td.bs.length c5)) (orC C (.slice a2 C.nd.ls.length c2) (.slice a3 C.nd.ts.length c3) (.slice a4 C.td.ws.length c4) (.slice a5 C.td.bs.length c5)) z'))) := fun z h => (g2 z).mono fun e z' ⟨he, hb⟩ => ⟨he, L0.out z h z' hb⟩
  have K3 : Hid (∀ z, (z.cell? ⟨w.heap.size, 0, none⟩ = some (.int .u64 (C.cl : Nat)) ∧ z.cell? ⟨w.heap.size, 1, none⟩ = some (.int .u64 (C.sq : Nat)) ∧ z.cell? ⟨w.heap.size + 1, 0, none⟩ = some (.int .u8 (C.k : Nat)) ∧ Hid (Bb w (cdC C (.slice a2 C.nd.ls.length c2) (.slice a3 C.nd.ts.length c3) (.slice a4 C.td.ws.length c4) (.slice a5 C.td.bs.length c5)) (orC C (.slice a2 C.nd.ls.length c2) (.slice a3 C.nd.ts.length c3) (.slice a4 C.td.ws.length c4) (.slice a5 C.td.bs.length c5)) z)) → Calls Try.prog 48 #[.int .u64 (C.k : Nat)] z fun e z' => e = .returned (.string q3) ∧ (z'.cell? ⟨w.heap.size, 0, none⟩ = some (.int .u64 (C.cl : Nat)) ∧ z'.cell? ⟨w.heap.size, 1, none⟩ = some (.int .u64 (C.sq : Nat)) ∧ z'.cell? ⟨w.heap.size + 1, 0, none⟩ = some (.int .u8 (C.k : Nat)) ∧ Hid (Bb w (cdC C (.slice a2 C.nd.ls.length c2) (.slice a3 C.nd.ts.length c3) (.slice a4 C.td.ws.length c4) (.slice a5 C.td.bs.length c5)) (orC C (.slice a2 C.nd.ls.length c2) (.slice a3 C.nd.ts.length c3) (.slice a4 C.td.ws.length c4) (.slice a5 C.td.bs.length c5)) z'))) := fun z h => (g3 z).mono fun e z' ⟨he, hb⟩ => ⟨he, L0.out z h z' hb⟩
  have KD : Hid (W1.drew.cell? ⟨w.heap.size, 0, none⟩ = some (.int .u64 (C.cl : Nat)) ∧ W1.drew.cell? ⟨w.heap.size, 1, none⟩ = some (.int .u64 (C.sq : Nat)) ∧ W1.drew.cell? ⟨w.heap.size + 1, 0, none⟩ = some (.int .u8 (C.k : Nat)) ∧ Hid (Bb w (cdC C (.slice a2 C.nd.ls.length c2) (.slice a3 C.nd.ts.length c3) (.slice a4 C.td.ws.length c4) (.slice a5 C.td.bs.length c5)) (orC C (.slice a2 C.nd.ls.length c2) (.slice a3 C.nd.ts.length c3) (.slice a4 C.td.ws.length c4) (.slice a5 C.td.bs.length c5)) W1.drew)) := by
    have hB := HB1.out.below ((Below.refl _ _).drew : Below W1.heap.size W1 W1.drew)
    exact ⟨hB.bx.cell 0, hB.bx.cell 1, hB.bz.cell 0, hB⟩
  clear g1 g2 g3 L0
  go_upto_region 2 with fail
  go_region_held3 (fun z => z.cell? ⟨w.heap.size, 0, none⟩ = some (.int .u64 (C.cl : Nat)) ∧ z.cell? ⟨w.heap.size, 1, none⟩ = some (.int .u64 (C.sq : Nat)) ∧ z.cell? ⟨w.heap.size + 1, 0, none⟩ = some (.int .u8 (C.k : Nat)) ∧ Hid (Bb w (cdC C (.slice a2 C.nd.ls.length c2) (.slice a3 C.nd.ts.length c3) (.slice a4 C.td.ws.length c4) (.slice a5 C.td.bs.length c5)) (orC C (.slice a2 C.nd.ls.length c2) (.slice a3 C.nd.ts.length c3) (.slice a4 C.td.ws.length c4) (.slice a5 C.td.bs.length c5)) z)) (first | assumption | exact KD.out)
    (first
      | (go_at_call 48; (with_reducible refine (K1.out _ ?_).mono ?_); assumption; rintro e w7 ⟨rfl, hS⟩)
      | (go_at_call 48; (with_reducible refine (K2.out _ ?_).mono ?_); assumption; rintro e w7 ⟨rfl, hS⟩)
      | (go_at_call 48; (with_reducible refine (K3.out _ ?_).mono ?_); assumption; rintro e w7 ⟨rfl, hS⟩))
  have HB7 := Lib.hid (KB.out _ hS)
  obtain ⟨e0, e1, d0, -⟩ := hS
  clear K1 K2 K3 KD KB HB1 z1 z2 z1' z2' y1 y2
  have hq7 : (q1 ++ q2 ++ q3).size ≤ 27 := by simp; omega
  obtain ⟨q, hq⟩ : ∃ q, q1 ++ q2 ++ q3 = q := ⟨_, rfl⟩
  have HQ := Lib.hid hq
  rw [hq] at hq7 ⊢
  clear hq s1 s2 s3
  by_cases k1 : C.k = 1
  · have HE : Hid (bs (fdY C) = bs (ndY C.nd)) := congrArg bs (HFD.out.trans (if_pos k1))
    rw [HE.out] at s4
    have KF := Lib.hid (KN.out k1)
    generalize bs (ndY C.nd) = q4 at *
    obtain ⟨x1, x2, x3⟩ := add_fit (p := q) (q := q4) (by omega)
    have d1 : w7.cell? ⟨w.heap.size + 1, 1, none⟩ = some (.string C.nd.n) := HB7.out.bz.cell 1
    have d2 : w7.cell? ⟨w.heap.size + 1, 2, none⟩ = some (.int .i64 C.nd.z0) := HB7.out.bz.cell 2
    have d3 : w7.cell? ⟨w.heap.size + 1, 3, none⟩ = some (.int .i64 C.nd.z1) := HB7.out.bz.cell 3
    have d4 : w7.cell? ⟨w.heap.size + 1, 4, none⟩ = some (.int .i64 C.nd.z2) := HB7.out.bz.cell 4
    have d5 : w7.cell? ⟨w.heap.size + 1, 5, none⟩ = some (.slice a2 C.nd.ls.length c2) := HB7.out.bz.cell 5
    have d6 : w7.cell? ⟨w.heap.size + 1, 6, none⟩ = some (.slice a3 C.nd.ts.length c3) := HB7.out.bz.cell 6
    rw [k1] at d0
    go_wp2_with fail
    refine (KF.out _ HB7.out.be).mono ?_
    rintro e w8 ⟨rfl, hb⟩
    have HB8 := Lib.hid (HB7.out.below hb)
    clear hb d0 d1 d2 d3 d4 d5 d6
    have d0 : w8.cell? ⟨w.heap.size + 1, 0, none⟩ = some (.int .u8 (C.k : Nat)) := HB8.out.bz.cell 0
    rw [k1] at d0
    go_wp2_with fail
    refine (named_no _ (by decide) _).mono ?_
    rintro e w9 ⟨rfl, rfl⟩
    go_wp2
    go_ret
    exact ⟨by rw [HE.out, HQ.out]; rfl, HB8.out.be⟩
  · by_cases k3 : C.k = 3
    · have HE : Hid (bs (fdY C) = bs (tdY C.td)) := congrArg bs (HFD.out.trans ((if_neg k1).trans (if_pos k3)))
      rw [HE.out] at s4
      have KF := Lib.hid (KT.out k3)
      generalize bs (tdY C.td) = q4 at *
      obtain ⟨x1, x2, x3⟩ := add_fit (p := q) (q := q4) (by omega)
      have d7 : w7.cell? ⟨w.heap.size + 1, 7, none⟩ = some (.string C.td.n) := HB7.out.bz.cell 7
      have d8 : w7.cell? ⟨w.heap.size + 1, 8, none⟩ = some (.int .i64 C.td.z0) := HB7.out.bz.cell 8
      have d9 : w7.cell? ⟨w.heap.size + 1, 9, none⟩ = some (.int .i64 C.td.z1) := HB7.out.bz.cell 9
      have d10 : w7.cell? ⟨w.heap.size + 1, 10, none⟩ = some (.int .i64 C.td.z2) := HB7.out.bz.cell 10
      have d11 : w7.cell? ⟨w.heap.size + 1, 11, none⟩ = some (.slice a4 C.td.ws.length c4) := HB7.out.bz.cell 11
      have d12 : w7.cell? ⟨w.heap.size + 1, 12, none⟩ = some (.slice a5 C.td.bs.length c5) := HB7.out.bz.cell 12
      have d13 : w7.cell? ⟨w.heap.size + 1, 13, none⟩ = some (.string C.td.g) := HB7.out.bz.cell 13
      have d14 : w7.cell? ⟨w.heap.size + 1, 14, none⟩ = some (.string C.td.a) := HB7.out.bz.cell 14
      have d15 : w7.cell? ⟨w.heap.size + 1, 15, none⟩ = some (.int .i64 C.td.r) := HB7.out.bz.cell 15
      rw [k3] at d0
      go_wp2_with fail
      refine (KF.out _ HB7.out.be).mono ?_
      rintro e w8 ⟨rfl, hb⟩
      have HB8 := Lib.hid (HB7.out.below hb)
      clear hb d0 d7 d8 d9 d10 d11 d12 d13 d14 d15
      have d0 : w8.cell? ⟨w.heap.size + 1, 0, none⟩ = some (.int .u8 (C.k : Nat)) := HB8.out.bz.cell 0
      rw [k3] at d0
      go_wp2_with fail
      refine (named_no _ (by decide) _).mono ?_
      rintro e w9 ⟨rfl, rfl⟩
      go_wp2
      go_ret
      exact ⟨by rw [HE.out, HQ.out]; rfl, HB8.out.be⟩
    · by_cases k5 : C.k = 5
      · have HE : Hid (bs (fdY C) = bs (txt C.na.data.toList) ++ (bs (txt C.on.data.toList) ++ bs (num C.fe))) := (congrArg bs (HFD.out.trans ((if_neg k1).trans ((if_neg k3).trans (if_pos k5))))).trans (by rw [bs_append, bs_append, List.append_assoc])
        have hna := HNA.out k1 k3
        have hon := HON.out k5
        have u1 : (bs (txt C.na.data.toList)).size ≤ 41 := by rw [bs_size]; exact txt_le _ hna
        have u2 : (bs (txt C.on.data.toList)).size ≤ 41 := by rw [bs_size]; exact txt_le _ hon
        have u3 : (bs (num C.fe)).size ≤ 9 := by rw [bs_size]; exact num_le _ HFE.out
        have KX := Lib.hid (fun z => PackText.text_ref C.na z (by show C.na.size ≤ 140737488351232; omega))
        have KY := Lib.hid (fun z => PackText.text_ref C.on z (by show C.on.size ≤ 140737488351232; omega))
        have G5 := HG4.out
        unfold PackText.txtB at KX KY
        clear hna hon s4
        generalize bs (txt C.na.data.toList) = t1 at *
        generalize bs (txt C.on.data.toList) = t2 at *
        generalize bs (num C.fe) = t3 at *
        obtain ⟨x1, x2, x3⟩ := add_fit (p := q) (q := t1) (by omega)
        obtain ⟨x4, x5, x6⟩ := add_fit (p := t2) (q := t3) (by omega)
        have hs1 : (q ++ t1).size = q.size + t1.size := by simp
        have hs2 : (t2 ++ t3).size = t2.size + t3.size := by simp
        obtain ⟨x7, x8, x9⟩ := add_fit (p := q ++ t1) (q := t2 ++ t3) (by omega)
        rw [hs1, hs2] at x7 x8 x9
        rw [k5] at d0
        have d16 : w7.cell? ⟨w.heap.size + 1, 16, none⟩ = some (.string C.na) := HB7.out.bz.cell 16
        clear hs1 hs2
        go_wp2_with fail
        refine (named_yes _ (by decide) (by decide) _).mono ?_
        rintro e w9 ⟨rfl, rfl⟩
        go_wp2_with fail
        refine (KX.out _).mono ?_
        rintro e w8 ⟨rfl, hb⟩
        have HB8 := Lib.hid (HB7.out.below hb)
        clear hb d0 d16
        have d0 : w8.cell? ⟨w.heap.size + 1, 0, none⟩ = some (.int .u8 (C.k : Nat)) := HB8.out.bz.cell 0
        rw [k5] at d0
        have L5 : Hid (∀ z, (z.cell? ⟨w.heap.size + 1, 17, none⟩ = some (.string C.on) ∧ z.cell? ⟨w.heap.size + 1, 18, none⟩ = some (.int .u64 (C.fe : Nat)) ∧ Hid (Bb w (cdC C (.slice a2 C.nd.ls.length c2) (.slice a3 C.nd.ts.length c3) (.slice a4 C.td.ws.length c4) (.slice a5 C.td.bs.length c5)) (orC C (.slice a2 C.nd.ls.length c2) (.slice a3 C.nd.ts.length c3) (.slice a4 C.td.ws.length c4) (.slice a5 C.td.bs.length c5)) z)) → ∀ z', Below z.heap.size z z' → (z'.cell? ⟨w.heap.size + 1, 17, none⟩ = some (.string C.on) ∧ z'.cell? ⟨w.heap.size + 1, 18, none⟩ = some (.int .u64 (C.fe : Nat)) ∧ Hid (Bb w (cdC C (.slice a2 C.nd.ls.length c2) (.slice a3 C.nd.ts.length c3) (.slice a4 C.td.ws.length c4) (.slice a5 C.td.bs.length c5)) (orC C (.slice a2 C.nd.ls.length c2) (.slice a3 C.nd.ts.length c3) (.slice a4 C.td.ws.length c4) (.slice a5 C.td.bs.length c5)) z'))) := by
          intro z h z' hb
          have hB := h.2.2.out.below hb
          exact ⟨hB.bz.cell 17, hB.bz.cell 18, hB⟩
        have KB5 : Hid (∀ z, (z.cell? ⟨w.heap.size + 1, 17, none⟩ = some (.string C.on) ∧ z.cell? ⟨w.heap.size + 1, 18, none⟩ = some (.int .u64 (C.fe : Nat)) ∧ Hid (Bb w (cdC C (.slice a2 C.nd.ls.length c2) (.slice a3 C.nd.ts.length c3) (.slice a4 C.td.ws.length c4) (.slice a5 C.td.bs.length c5)) (orC C (.slice a2 C.nd.ls.length c2) (.slice a3 C.nd.ts.length c3) (.slice a4 C.td.ws.length c4) (.slice a5 C.td.bs.length c5)) z)) → Below w.heap.size w z) := fun z h => h.2.2.out.be
        have K51 : Hid (∀ z, (z.cell? ⟨w.heap.size + 1, 17, none⟩ = some (.string C.on) ∧ z.cell? ⟨w.heap.size + 1, 18, none⟩ = some (.int .u64 (C.fe : Nat)) ∧ Hid (Bb w (cdC C (.slice a2 C.nd.ls.length c2) (.slice a3 C.nd.ts.length c3) (.slice a4 C.td.ws.length c4) (.slice a5 C.td.bs.length c5)) (orC C (.slice a2 C.nd.ls.length c2) (.slice a3 C.nd.ts.length c3) (.slice a4 C.td.ws.length c4) (.slice a5 C.td.bs.length c5)) z)) → Calls Try.prog 51 #[.string C.on] z fun e z' => e = .returned (.string t2) ∧ (z'.cell? ⟨w.heap.size + 1, 17, none⟩ = some (.string C.on) ∧ z'.cell? ⟨w.heap.size + 1, 18, none⟩ = some (.int .u64 (C.fe : Nat)) ∧ Hid (Bb w (cdC C (.slice a2 C.nd.ls.length c2) (.slice a3 C.nd.ts.length c3) (.slice a4 C.td.ws.length c4) (.slice a5 C.td.bs.length c5)) (orC C (.slice a2 C.nd.ls.length c2) (.slice a3 C.nd.ts.length c3) (.slice a4 C.td.ws.length c4) (.slice a5 C.td.bs.length c5)) z'))) := fun z h => (KY.out z).mono fun e z' ⟨he, hb⟩ => ⟨he, L5.out z h z' hb⟩
        have K52 : Hid (∀ z, (z.cell? ⟨w.heap.size + 1, 17, none⟩ = some (.string C.on) ∧ z.cell? ⟨w.heap.size + 1, 18, none⟩ = some (.int .u64 (C.fe : Nat)) ∧ Hid (Bb w (cdC C (.slice a2 C.nd.ls.length c2) (.slice a3 C.nd.ts.length c3) (.slice a4 C.td.ws.length c4) (.slice a5 C.td.bs.length c5)) (orC C (.slice a2 C.nd.ls.length c2) (.slice a3 C.nd.ts.length c3) (.slice a4 C.td.ws.length c4) (.slice a5 C.td.bs.length c5)) z)) → Calls Try.prog 48 #[.int .u64 (C.fe : Nat)] z fun e z' => e = .returned (.string t3) ∧ (z'.cell? ⟨w.heap.size + 1, 17, none⟩ = some (.string C.on) ∧ z'.cell? ⟨w.heap.size + 1, 18, none⟩ = some (.int .u64 (C.fe : Nat)) ∧ Hid (Bb w (cdC C (.slice a2 C.nd.ls.length c2) (.slice a3 C.nd.ts.length c3) (.slice a4 C.td.ws.length c4) (.slice a5 C.td.bs.length c5)) (orC C (.slice a2 C.nd.ls.length c2) (.slice a3 C.nd.ts.length c3) (.slice a4 C.td.ws.length c4) (.slice a5 C.td.bs.length c5)) z'))) := fun z h => (G5 z).mono fun e z' ⟨he, hb⟩ => ⟨he, L5.out z h z' hb⟩
        have KD5 : Hid (w8.drew.cell? ⟨w.heap.size + 1, 17, none⟩ = some (.string C.on) ∧ w8.drew.cell? ⟨w.heap.size + 1, 18, none⟩ = some (.int .u64 (C.fe : Nat)) ∧ Hid (Bb w (cdC C (.slice a2 C.nd.ls.length c2) (.slice a3 C.nd.ts.length c3) (.slice a4 C.td.ws.length c4) (.slice a5 C.td.bs.length c5)) (orC C (.slice a2 C.nd.ls.length c2) (.slice a3 C.nd.ts.length c3) (.slice a4 C.td.ws.length c4) (.slice a5 C.td.bs.length c5)) w8.drew)) := by
          have hB := HB8.out.below ((Below.refl _ _).drew : Below w8.heap.size w8 w8.drew)
          exact ⟨hB.bz.cell 17, hB.bz.cell 18, hB⟩
        clear L5 G5 KX KY
        go_upto_region 10 with fail
        clear d0
        go_region_held3 (fun z => z.cell? ⟨w.heap.size + 1, 17, none⟩ = some (.string C.on) ∧ z.cell? ⟨w.heap.size + 1, 18, none⟩ = some (.int .u64 (C.fe : Nat)) ∧ Hid (Bb w (cdC C (.slice a2 C.nd.ls.length c2) (.slice a3 C.nd.ts.length c3) (.slice a4 C.td.ws.length c4) (.slice a5 C.td.bs.length c5)) (orC C (.slice a2 C.nd.ls.length c2) (.slice a3 C.nd.ts.length c3) (.slice a4 C.td.ws.length c4) (.slice a5 C.td.bs.length c5)) z)) (first | assumption | exact KD5.out)
          (first
            | (go_at_call 51; (with_reducible refine (K51.out _ ?_).mono ?_); assumption; rintro e w7 ⟨rfl, hS⟩)
            | (go_at_call 48; (with_reducible refine (K52.out _ ?_).mono ?_); assumption; rintro e w7 ⟨rfl, hS⟩))
        all_goals
          go_wp2
          go_ret
          exact ⟨by rw [HE.out, HQ.out, show q ++ (t1 ++ (t2 ++ t3)) = q ++ t1 ++ (t2 ++ t3) from ByteArray.append_assoc.symm]; rfl, KB5.out _ hS⟩
      · have HE : Hid (bs (fdY C) = bs (txt C.na.data.toList)) := congrArg bs (HFD.out.trans ((if_neg k1).trans ((if_neg k3).trans (if_neg k5))))
        have hna := HNA.out k1 k3
        have u1 : (bs (txt C.na.data.toList)).size ≤ 41 := by rw [bs_size]; exact txt_le _ hna
        have KX := Lib.hid (fun z => PackText.text_ref C.na z (by show C.na.size ≤ 140737488351232; omega))
        unfold PackText.txtB at KX
        clear hna s4
        generalize bs (txt C.na.data.toList) = t1 at *
        obtain ⟨x1, x2, x3⟩ := add_fit (p := q) (q := t1) (by omega)
        have m5 : ¬ ((C.k : Nat) : Int) = 5 := by omega
        have n5 : (((C.k : Nat) : Int) == 5) = false := by simpa using m5
        have d16 : w7.cell? ⟨w.heap.size + 1, 16, none⟩ = some (.string C.na) := HB7.out.bz.cell 16
        have m1 : ¬ ((C.k : Nat) : Int) = 1 := by omega
        have n1 : (((C.k : Nat) : Int) == 1) = false := by simpa using m1
        have m3 : ¬ ((C.k : Nat) : Int) = 3 := by omega
        have n3 : (((C.k : Nat) : Int) == 3) = false := by simpa using m3
        go_wp2_with fail
        refine (named_yes _ m1 m3 _).mono ?_
        rintro e w9 ⟨rfl, rfl⟩
        go_wp2_with fail
        refine (KX.out _).mono ?_
        rintro e w8 ⟨rfl, hb⟩
        have HB8 := Lib.hid (HB7.out.below hb)
        clear hb d0 d16
        have d0 : w8.cell? ⟨w.heap.size + 1, 0, none⟩ = some (.int .u8 (C.k : Nat)) := HB8.out.bz.cell 0
        go_wp2
        go_ret
        exact ⟨by rw [HE.out, HQ.out]; rfl, HB8.out.be⟩
end Hd
end Go.Proofs.Ythlchdlgafincaa

/-
  gafferref09.Encode.
-/
namespace Go.Proofs.Ythlchdlgafincaa
open Go.RowKit
namespace Hd
open PM Hc
set_option maxRecDepth 100000 in
set_option maxHeartbeats 2000000 in
theorem encode_ref9 (C : Cd) (v2 v3 v4 v5 : Value) (w : World) (hp : PrsIn w w.heap.size C v2 v3 v4 v5) (hl : Lens C) (hb : Bnd C) :
    Calls Try.prog 11 #[.agg (cdC C v2 v3 v4 v5).toArray] w fun e w' => CeIs C e ∧ Below w.heap.size w w' := by
  have HB0 : Hid (Below w.heap.size w (w.alloc (.cells (cdC C v2 v3 v4 v5).toArray 33))) := (Below.refl _ _).alloc (Nat.le_refl _) _
  have HX0 : Hid (Bxn (w.alloc (.cells (cdC C v2 v3 v4 v5).toArray 33)) w.heap.size (cdC C v2 v3 v4 v5)) := Bxn.made w _ _
  have KA : Hid (∀ z, Below w.heap.size w z → Calls Try.prog 17 #[.agg (cdC C v2 v3 v4 v5).toArray] z fun e w' => e = .returned (.int .i64 (coE (ckB C) : Nat)) ∧ Below z.heap.size z w') := fun z hz => check_ref9 C v2 v3 v4 v5 z (hp.ovr hz) hl
  cases hk : ckB C with
  | false =>
    have HN := Lib.hid (CeIs.no hk)
    rw [hk] at KA
    clear hl hb hp hk
    obtain ⟨CS, hCS⟩ : ∃ CS, CS = (cdC C v2 v3 v4 v5).toArray := ⟨_, rfl⟩
    rw [← hCS] at HB0 HX0 ⊢
    clear hCS
    go_enter Try.func11, Try.ntmps11
    go_upto_region 1 with fail
    generalize w.alloc (.cells CS 33) = W0 at *
    have R0 := Lib.hid (HX0.out.range 0)
    refine wp_region_list ?_
    refine wpList_load_mid rfl 33 (.tmp 1) rfl w.heap.size 0 rfl (cdC C v2 v3 v4 v5) _ R0.out Try.underlying33 rfl rfl ?_
    go_wp2_with fail
    refine (KA.out _ HB0.out).mono ?_
    rintro e w1 ⟨rfl, hb⟩
    have HB1 := Lib.hid (HB0.out.trans (hb.mono HB0.out.size))
    clear hb
    go_wp2
    go_ret2
    exact ⟨HN.out, HB1.out⟩
  | true =>
    have HY := Lib.hid (CeIs.yes hk)
    rw [hk] at KA
    have hf := (ck_form hk).1
    have KM : Hid (∀ z : World, Below w.heap.size w z → Calls Try.prog 24 #[.agg (cdC C v2 v3 v4 v5).toArray] z fun e w' => e = .returned (.string (bs (cmY C))) ∧ Below z.heap.size z w') := fun z hz => bytes_ref9 C v2 v3 v4 v5 z (hp.ovr hz) hf hb
    clear hl hb hp hk hf
    obtain ⟨CS, hCS⟩ : ∃ CS, CS = (cdC C v2 v3 v4 v5).toArray := ⟨_, rfl⟩
    rw [← hCS] at HB0 HX0 ⊢
    clear hCS
    go_enter Try.func11, Try.ntmps11
    go_upto_region 1 with fail
    generalize w.alloc (.cells CS 33) = W0 at *
    have R0 := Lib.hid (HX0.out.range 0)
    refine wp_region_list ?_
    refine wpList_load_mid rfl 33 (.tmp 1) rfl w.heap.size 0 rfl (cdC C v2 v3 v4 v5) _ R0.out Try.underlying33 rfl rfl ?_
    go_wp2_with fail
    refine (KA.out _ HB0.out).mono ?_
    rintro e w1 ⟨rfl, hb⟩
    have HB1 := Lib.hid (HB0.out.trans (hb.mono HB0.out.size))
    have HX1 := Lib.hid (HX0.out.below hb)
    clear hb
    have R1 := Lib.hid (HX1.out.range 0)
    generalize Value.agg CS = A0
    go_upto_region 4 with fail
    refine wp_region_list ?_
    refine wpList_load_mid rfl 33 (.tmp 1) rfl w.heap.size 0 rfl (cdC C v2 v3 v4 v5) _ R1.out Try.underlying33 rfl rfl ?_
    go_wp2_with fail
    refine (KM.out _ HB1.out).mono ?_
    rintro e w2 ⟨rfl, hb⟩
    have HB2 := Lib.hid (HB1.out.trans (hb.mono HB1.out.size))
    clear hb
    go_wp2
    go_ret2
    exact ⟨HY.out, HB2.out⟩
end Hd
end Go.Proofs.Ythlchdlgafincaa
