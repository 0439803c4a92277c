/-
  LAW: DiskAsks.
-/
import Derived.Test.YtohhiheebhcgeaaDiskNm
import Derived.Test.YtohhiheebhcgeaaDiskArg
import Derived.Test.YtohhiheebhcgeaaArg
import Derived.Deep.RegionHeld3
namespace Go.Proofs.Ytohhiheebhcgeaa
open Go.RowKit Go.Lib Go.Sort
namespace Dk
theorem St.made {w : World} {a : Option Addr} {c : Nat} {dn : Bool} {fu : Int} {fs : List Fl} (h : Files w w.heap.size (.slice a fs.length c) fs) :
    St w w.heap.size (w.alloc (.cells #[.slice a fs.length c, .bool dn, .int .i64 fu] 24)) (.slice a fs.length c) dn fu fs :=
  ⟨Nat.le_refl _, by simp, (Below.refl _ _).alloc (Nat.le_refl _) _, Dx.made _ _ _ _, h.al _⟩
theorem St.fill {w x x' : World} {B : Nat} {a : Option Addr} {c : Nat} {dn : Bool} {fu : Int} {fs : List Fl} (h : St w B x (.slice a fs.length c) dn fu fs) (hb : Below x.heap.size x x') :
    St w B x' (.slice a fs.length c) dn fu fs ∧ x'.cell? ⟨B, 0, none⟩ = some (.slice a fs.length c) ∧ x'.cell? ⟨B, 1, none⟩ = some (.bool dn) ∧ x'.cell? ⟨B, 2, none⟩ = some (.int .i64 fu) :=
  ⟨h.keep hb, (h.keep hb).dx.d0, (h.keep hb).dx.d1, (h.keep hb).dx.d2⟩
theorem St.fillH {w x x' : World} {B : Nat} {a : Option Addr} {c : Nat} {dn : Bool} {fu : Int} {fs : List Fl} (h : St w B x (.slice a fs.length c) dn fu fs) (hb : Below x.heap.size x x') :
    x'.cell? ⟨B, 0, none⟩ = some (.slice a fs.length c) ∧ x'.cell? ⟨B, 1, none⟩ = some (.bool dn) ∧ x'.cell? ⟨B, 2, none⟩ = some (.int .i64 fu) ∧ Hid (Below x.heap.size x x') :=
  ⟨(h.keep hb).dx.d0, (h.keep hb).dx.d1, (h.keep hb).dx.d2, hb⟩
theorem strs_at {w : World} {base : Nat} {e : TypeId} {v : Value} {ss : List ByteArray} (h : w.ownsRow base e 1 v ss.length (ss.map .string)) (hn : 0 < ss.length) :
    ∃ g cap, v = .slice (some ⟨g, 0, none⟩) ss.length cap ∧ g < w.heap.size ∧ ∀ i (hi : i < ss.length), w.cell? ⟨g, i, none⟩ = some (.string ss[i]) := by
  obtain ⟨g, cap, rfl, -, hg⟩ := Arg.own_form h hn
  refine ⟨g, cap, rfl, hg, fun i hi => ?_⟩
  have := h.cells rfl i (.string ss[i]) (by rw [List.getElem?_map, List.getElem?_eq_getElem hi]; rfl)
  rw [Addr.add_lit] at this
  simpa using this

set_option maxRecDepth 100000 in
set_option maxHeartbeats 4000000 in
theorem diskAsks (v : Value) (dn : Bool) (fu : Int) (fs : List Fl) (nm : ByteArray) (w : World) (hv : Files w w.heap.size v fs) :
    Calls Try.prog 5 #[.agg #[v, .bool dn, .int .i64 fu], .string nm] w fun e w' => e = .returned (.bool true) ∧ Below w.heap.size w w' := by
  have HV := Lib.hid hv
  obtain ⟨a, c, rfl, -⟩ := hv
  have HS0 := Lib.hid (St.made (dn := dn) (fu := fu) HV.out)
  have h1 := read_own _ dn fu fs nm _ HS0.out.files
  have HR2 : Hid (∀ w1, Files w1 w1.heap.size (.slice a fs.length c) fs → Calls Try.prog 25 #[.agg #[.slice a fs.length c, .bool dn, .int .i64 fu], .string nm] w1 fun e w' => ReadIs fs dn nm e ∧ Below w1.heap.size w1 w') := fun w1 hf => read_ref _ dn fu fs nm w1 hf
  unfold ReadIs at h1 HR2
  generalize rdS fs dn nm = s at h1 HR2
  generalize rdE fs dn nm = re at h1 HR2
  have HN3 : Hid (∀ w1, Files w1 w1.heap.size (.slice a fs.length c) fs → Calls Try.prog 26 #[.agg #[.slice a fs.length c, .bool dn, .int .i64 fu], .string nm] w1 (NamesIs w1 fs dn nm)) := fun w1 hf => names_all _ dn fu fs nm w1 hf
  have HN4 : Hid (∀ w1, Files w1 w1.heap.size (.slice a fs.length c) fs → Calls Try.prog 27 #[.agg #[.slice a fs.length c, .bool dn, .int .i64 fu], .string nm] w1 (NamesIs w1 fs dn nm)) := fun w1 hf => names_ref _ dn fu fs nm w1 hf
  have HC5 : Hid (∀ w1, Files w1 w1.heap.size (.slice a fs.length c) fs → Calls Try.prog 28 #[.agg #[.slice a fs.length c, .bool dn, .int .i64 fu]] w1 fun e w' => e = .returned (.int .i64 (chkN fs : Nat)) ∧ Below w1.heap.size w1 w') := fun w1 hf => check_own _ dn fu fs w1 hf
  have HC6 : Hid (∀ w1, Files w1 w1.heap.size (.slice a fs.length c) fs → Calls Try.prog 29 #[.agg #[.slice a fs.length c, .bool dn, .int .i64 fu]] w1 fun e w' => e = .returned (.int .i64 (chkN fs : Nat)) ∧ Below w1.heap.size w1 w') := fun w1 hf => check_ref _ dn fu fs w1 hf
  unfold NamesIs at HN3 HN4
  generalize rdN fs dn = rn at HN3 HN4
  generalize chkN fs = cn at HC5 HC6
  generalize hss : nms fs dn nm = ss at HN3 HN4
  have HLS : Hid (ss.length ≤ 4611686018427387904) := by
    show _ ≤ _
    rw [← hss]
    unfold nms
    split
    · obtain ⟨-, -, -, hl, -⟩ := HV.out
      exact Nat.le_trans (nmT_len _ _ _) hl
    · simp
  clear hss
  go_enter Try.func5, Try.ntmps5
  go_wp2_with (go_at_call 24; go_loud (refine h1.mono ?_; rintro e w1 ⟨rfl, hb⟩; obtain ⟨hs, d0, d1, d2⟩ := HS0.out.fill hb; have HS1 := Lib.hid hs; clear hs hb))
  go_wp2_with (go_at_call 25; go_loud (refine (HR2.out _ HS1.out.files).mono ?_; rintro e w2 ⟨rfl, hb⟩; obtain ⟨hs, d0, d1, d2⟩ := HS1.out.fill hb; have HS2 := Lib.hid hs; clear hs hb))
  go_wp2_with (go_at_call 26; go_loud (refine (HN3.out _ HS2.out.files).mono ?_; rintro e w3 ⟨v3, rfl, ho, hb⟩; obtain ⟨hs, d0, d1, d2⟩ := HS2.out.fill hb; obtain ⟨a3, c3, rfl⟩ := Arg.len_own ho; have HO3 := Lib.hid ho; have HS3 := Lib.hid hs; clear hs hb ho))
  go_wp2_with (go_at_call 27; go_loud (refine (HN4.out _ HS3.out.files).mono ?_; rintro e w4 ⟨v4, rfl, ho, hb⟩; obtain ⟨hs, d0, d1, d2⟩ := HS3.out.fill hb; obtain ⟨a4, c4, rfl⟩ := Arg.len_own ho; have HO4 := Lib.hid ho; have HO34 := Lib.hid (Arg.own_below HO3.out hb); have HS4 := Lib.hid hs; clear hs hb ho))
  have HD : (w4.drew.cell? ⟨w.heap.size, 0, none⟩ = some (.slice a fs.length c) ∧ w4.drew.cell? ⟨w.heap.size, 1, none⟩ = some (.bool dn) ∧ w4.drew.cell? ⟨w.heap.size, 2, none⟩ = some (.int .i64 fu) ∧ Hid (Below w4.heap.size w4 w4.drew)) := HS4.out.fillH ⟨rfl, rfl, rfl, Nat.le_refl _, fun _ _ => rfl⟩
  have HL5 : ∀ x, (x.cell? ⟨w.heap.size, 0, none⟩ = some (.slice a fs.length c) ∧ x.cell? ⟨w.heap.size, 1, none⟩ = some (.bool dn) ∧ x.cell? ⟨w.heap.size, 2, none⟩ = some (.int .i64 fu) ∧ Hid (Below w4.heap.size w4 x)) → Calls Try.prog 18 #[] x fun e w' => e = .returned (.bool true) ∧ (w'.cell? ⟨w.heap.size, 0, none⟩ = some (.slice a fs.length c) ∧ w'.cell? ⟨w.heap.size, 1, none⟩ = some (.bool dn) ∧ w'.cell? ⟨w.heap.size, 2, none⟩ = some (.int .i64 fu) ∧ Hid (Below w4.heap.size w4 w')) := fun x h => (lives x).mono fun e w' ⟨he, hb⟩ => ⟨he, HS4.out.fillH (h.2.2.2.out.trans (hb.mono h.2.2.2.out.size))⟩
  have HL6 : ∀ x, (x.cell? ⟨w.heap.size, 0, none⟩ = some (.slice a fs.length c) ∧ x.cell? ⟨w.heap.size, 1, none⟩ = some (.bool dn) ∧ x.cell? ⟨w.heap.size, 2, none⟩ = some (.int .i64 fu) ∧ Hid (Below w4.heap.size w4 x)) → Calls Try.prog 28 #[.agg #[.slice a fs.length c, .bool dn, .int .i64 fu]] x fun e w' => e = .returned (.int .i64 (cn : Nat)) ∧ (w'.cell? ⟨w.heap.size, 0, none⟩ = some (.slice a fs.length c) ∧ w'.cell? ⟨w.heap.size, 1, none⟩ = some (.bool dn) ∧ w'.cell? ⟨w.heap.size, 2, none⟩ = some (.int .i64 fu) ∧ Hid (Below w4.heap.size w4 w')) := fun x h => (HC5.out x (HS4.out.keep h.2.2.2.out).files).mono fun e w' ⟨he, hb⟩ => ⟨he, HS4.out.fillH (h.2.2.2.out.trans (hb.mono h.2.2.2.out.size))⟩
  have HL7 : ∀ x, (x.cell? ⟨w.heap.size, 0, none⟩ = some (.slice a fs.length c) ∧ x.cell? ⟨w.heap.size, 1, none⟩ = some (.bool dn) ∧ x.cell? ⟨w.heap.size, 2, none⟩ = some (.int .i64 fu) ∧ Hid (Below w4.heap.size w4 x)) → Calls Try.prog 29 #[.agg #[.slice a fs.length c, .bool dn, .int .i64 fu]] x fun e w' => e = .returned (.int .i64 (cn : Nat)) ∧ (w'.cell? ⟨w.heap.size, 0, none⟩ = some (.slice a fs.length c) ∧ w'.cell? ⟨w.heap.size, 1, none⟩ = some (.bool dn) ∧ w'.cell? ⟨w.heap.size, 2, none⟩ = some (.int .i64 fu) ∧ Hid (Below w4.heap.size w4 w')) := fun x h => (HC6.out x (HS4.out.keep h.2.2.2.out).files).mono fun e w' ⟨he, hb⟩ => ⟨he, HS4.out.fillH (h.2.2.2.out.trans (hb.mono h.2.2.2.out.size))⟩
  have K5 := Lib.hid HL5
  have K6 := Lib.hid HL6
  have K7 := Lib.hid HL7
  have KD := Lib.hid HD
  clear HL5 HL6 HL7 HD HR2 HN3 HN4 HC5 HC6
  go_region_held3 (fun w' => w'.cell? ⟨w.heap.size, 0, none⟩ = some (.slice a fs.length c) ∧ w'.cell? ⟨w.heap.size, 1, none⟩ = some (.bool dn) ∧ w'.cell? ⟨w.heap.size, 2, none⟩ = some (.int .i64 fu) ∧ Hid (Below w4.heap.size w4 w')) (first | assumption | exact KD.out)
    (first
      | (go_at_call 18; refine (K5.out _ ?_).mono ?_; assumption; rintro e w7 ⟨rfl, hS⟩)
      | (go_at_call 28; refine (K6.out _ ?_).mono ?_; assumption; rintro e w7 ⟨rfl, hS⟩)
      | (go_at_call 29; refine (K7.out _ ?_).mono ?_; assumption; rintro e w7 ⟨rfl, hS⟩))
  all_goals
    have HB7 : Hid (Below w4.heap.size w4 w7) := hS.2.2.2
    have HS7 := Lib.hid (HS4.out.keep HB7.out)
    clear hS K5 K6 K7 KD
    have HZ3 := Lib.hid (Arg.own_below HO34.out HB7.out)
    have HZ4 := Lib.hid (Arg.own_below HO4.out HB7.out)
    go_wp2
    go_loopg [71] ss.length (fun g i wx => ∃ k : Nat, k + g = ss.length ∧ i = .int .i64 k ∧ Below w7.heap.size w7 wx)
    case atStart => exact ⟨0, by omega, rfl, Below.refl _ _⟩
    case round =>
      obtain ⟨k, hkg, rfl, hbx⟩ := hrel
      have HX := Lib.hid hbx
      cases gk with
      | zero =>
        obtain rfl : k = ss.length := by omega
        clear hkg hbx
        go_wp2
        go_ret
        exact ⟨rfl, (HS7.out.keep HX.out).below⟩
      | succ g =>
        have hlk : k < ss.length := by omega
        have HG := Lib.hid hkg
        have hl := HLS.out
        obtain ⟨g3, p3, e3, q3, r3⟩ := strs_at HZ3.out (by omega)
        obtain ⟨g4, p4, e4, q4, r4⟩ := strs_at HZ4.out (by omega)
        simp only [Value.slice.injEq] at e3 e4
        obtain ⟨rfl, -, rfl⟩ := e3
        obtain ⟨rfl, -, rfl⟩ := e4
        have k3 := (hbx.cell (p := ⟨g3, k, none⟩) q3).trans (r3 k hlk)
        have k4 := (hbx.cell (p := ⟨g4, k, none⟩) q4).trans (r4 k hlk)
        clear hkg hbx r3 r4
        generalize ss[k] = z at *
        have t1 : (k : Int) < (ss.length : Int) := by omega
        have t2 : (0 : Int) ≤ (k : Int) := by omega
        go_wp2
        go_quiet (fail)
        go_wp2
        go_roundg g
        case measure => omega
        case rel => exact ⟨k + 1, by have := HG.out; omega, by go_num, bdN HX.out _⟩
end Dk
end Go.Proofs.Ytohhiheebhcgeaa
