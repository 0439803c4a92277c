/-
  LAW: DiskBehind, its cases joined.
-/
import Derived.Test.YtohhiheebhcgeaaDiskBeh
namespace Go.Proofs.Ytohhiheebhcgeaa
open Go.RowKit Go.Lib Go.Sort
namespace Dk
theorem outO_not {fs : List Fl} {dn : Bool} {fu : Int} {r : Nat} {ch : List Fl} {ad : Bool} (h0 : (outO fs dn fu r ch ad).r ≠ 0) (h8 : (outO fs dn fu r ch ad).r ≠ 8) :
    ((outO fs dn fu r ch ad).dn = false ∧ (outO fs dn fu r ch ad).fu = 0 ∧ (outO fs dn fu r ch ad).fs = []) ∨ ((outO fs dn fu r ch ad).dn = dn ∧ (outO fs dn fu r ch ad).fu = fu ∧ (outO fs dn fu r ch ad).fs = fs) := by
  unfold outO at *
  by_cases hc : chkN fs = 0
  · rw [if_pos hc] at *
    cases dn with
    | true => simp at h8
    | false =>
      rw [if_neg (by simp)] at *
      by_cases hr : r = 0
      · rw [if_pos hr] at *
        by_cases hf : fu = 0
        · rw [if_pos hf] at *; simp at h8
        · rw [if_neg hf] at *; simp at h0
      · rw [if_neg hr] at *
        exact .inr ⟨rfl, rfl, rfl⟩
  · rw [if_neg hc] at *
    exact .inl ⟨rfl, rfl, rfl⟩
theorem rd_same {fs gs : List Fl} {nm : ByteArray} (h : chkN fs = 0) (h2 : chkN gs = 0) (hl : look gs nm = look fs nm) : rdS gs false nm = rdS fs false nm ∧ rdE gs false nm = rdE fs false nm := by
  cases hf : look fs nm with
  | some f =>
    rw [hf] at hl
    rw [(rd_some h hf).1, (rd_some h hf).2, (rd_some h2 hl).1, (rd_some h2 hl).2]
    exact ⟨rfl, rfl⟩
  | none =>
    rw [hf] at hl
    rw [(rd_none h hf).1, (rd_none h hf).2, (rd_none h2 hl).1, (rd_none h2 hl).2]
    exact ⟨rfl, rfl⟩
theorem diskBehind (v kv : Value) (dn : Bool) (fu : Int) (fs : List Fl) (ks : List Int) (nm da ot : ByteArray) (w : World) (hv : Files w w.heap.size v fs) (hk : Ints w w.heap.size kv ks) (hlo : -9223372036854775808 ≤ fu) (hhi : fu ≤ 9223372036854775807)
    (hz0 : da.size ≤ 9223372036854775807) (hz : ∀ f ∈ fs, f.da.size + da.size ≤ 9223372036854775807) :
    Calls Try.prog 8 #[.agg #[v, .bool dn, .int .i64 fu], .string nm, .string da, .string ot, kv] w fun e w' => e = .returned (.bool true) ∧ Below w.heap.size w w' := by
  have HV := hv
  have HK := hk
  obtain ⟨a, c, rfl, -⟩ := hv
  obtain ⟨ka, kc, rfl, -⟩ := hk
  have HR1 : ∀ w1, Files w1 w1.heap.size (.slice a fs.length c) fs → Calls Try.prog 24 #[.agg #[.slice a fs.length c, .bool dn, .int .i64 fu], .string nm] w1 fun e w' => e = .returned (.tuple #[.string (rdS fs dn nm), .int .i64 (rdE fs dn nm : Nat)]) ∧ Below w1.heap.size w1 w' := fun w1 hf => read_own _ dn fu fs nm w1 hf
  have HA : ∀ w1, Files w1 w1.heap.size (.slice a fs.length c) fs → Calls Try.prog 12 #[.agg #[.slice a fs.length c, .bool dn, .int .i64 fu], .string nm, .string da] w1 (DoIs w1 (addO fs dn fu nm da).fs (addO fs dn fu nm da).dn (addO fs dn fu nm da).fu (addO fs dn fu nm da).r) := fun w1 hf => add_all _ fs dn fu nm da hlo hhi hz0 hz w1 hf
  by_cases hr : (addO fs dn fu nm da).r = 0
  · obtain ⟨gs, he, rfl, h0, h9, hlg, hne, hgf, hg4⟩ := add_ok HV.fine hz0 hz hr
    rw [he] at HA
    have hf2 : -9223372036854775808 ≤ (if 0 < fu then fu - 1 else fu) ∧ (if 0 < fu then fu - 1 else fu) ≤ 9223372036854775807 := by split <;> omega
    generalize (if 0 < fu then fu - 1 else fu) = fu2 at *
    have hre : rdE fs false nm = 0 ∨ rdE fs false nm = 6 := by
      cases hl : look fs nm with
      | some f => exact .inl (rd_some h0 hl).2
      | none => exact .inr (rd_none h0 hl).2
    have hnow : rdS fs false nm ++ da = (addF fs nm da).da := by
      unfold addF
      cases hl : look fs nm with
      | some f => rw [(rd_some h0 hl).1]
      | none =>
        rw [(rd_none h0 hl).1]
        exact ByteArray.empty_append
    have hysz : (rdS fs false nm).size + da.size ≤ 9223372036854775807 := by
      cases hl : look fs nm with
      | some f => rw [(rd_some h0 hl).1]; exact hz f (look_mem hl).1
      | none =>
        rw [(rd_none h0 hl).1]
        have : (⟨#[]⟩ : ByteArray).size = 0 := rfl
        omega
    have HRN : ∀ (w1 : World) (a1 : Option Addr) (c1 : Nat) (nm2 : ByteArray), Files w1 w1.heap.size (.slice a1 gs.length c1) gs → Calls Try.prog 24 #[.agg #[.slice a1 gs.length c1, .bool false, .int .i64 fu2], .string nm2] w1 fun e w' => e = .returned (.tuple #[.string (rdS gs false nm2), .int .i64 (rdE gs false nm2 : Nat)]) ∧ Below w1.heap.size w1 w' := fun w1 a1 c1 nm2 hf => read_own _ false fu2 gs nm2 w1 hf
    have HR2 : ∀ (w1 : World) (a1 : Option Addr) (c1 : Nat), Files w1 w1.heap.size (.slice a1 gs.length c1) gs → Calls Try.prog 24 #[.agg #[.slice a1 gs.length c1, .bool false, .int .i64 fu2], .string nm] w1 fun e w' => e = .returned (.tuple #[.string (addF fs nm da).da, .int .i64 (0 : Nat)]) ∧ Below w1.heap.size w1 w' := fun w1 a1 c1 hf => by
      have := HRN w1 a1 c1 nm hf
      rw [(rd_some h9 hlg).1, (rd_some h9 hlg).2] at this
      exact this
    have HRX : ∀ w1, Files w1 w1.heap.size (.slice a fs.length c) fs → Calls Try.prog 24 #[.agg #[.slice a fs.length c, .bool false, .int .i64 fu], .string ot] w1 fun e w' => e = .returned (.tuple #[.string (rdS fs false ot), .int .i64 (rdE fs false ot : Nat)]) ∧ Below w1.heap.size w1 w' := fun w1 hf => read_own _ false fu fs ot w1 hf
    have hgl : gs.length ≤ 4611686018427387904 := by omega
    have HSY : ∀ (w1 : World) (a1 : Option Addr) (c1 : Nat), Files w1 w1.heap.size (.slice a1 gs.length c1) gs → Calls Try.prog 14 #[.agg #[.slice a1 gs.length c1, .bool false, .int .i64 fu2], .string nm] w1 (DoIs w1 (synO gs false fu2 nm).fs (synO gs false fu2 nm).dn (synO gs false fu2 nm).fu (synO gs false fu2 nm).r) := fun w1 a1 c1 hf => sync_all _ gs false fu2 nm hf2.1 hf2.2 w1 hf
    have hsyn := syn_ok (fu := fu2) hgf h9 hlg
    obtain ⟨hs, dn3, fu3, r3, hse, hf3, hl3, hcase⟩ : ∃ hs dn3 fu3 r3, synO gs false fu2 nm = ⟨hs, dn3, fu3, r3⟩ ∧ Fine hs ∧ hs.length ≤ 4611686018427387904 ∧ ((r3 = 8 ∧ dn3 = true) ∨ (r3 = 0 ∧ ∃ cs : List Fl, Fine cs ∧ cs.length ≤ 4611686018427387904 ∧ (∀ (w1 : World) (a1 : Option Addr) (c1 : Nat), Files w1 w1.heap.size (.slice a1 hs.length c1) hs → Below w.heap.size w w1 → Calls Try.prog 30 #[.agg #[.slice a1 hs.length c1, .bool dn3, .int .i64 fu3], .slice ka ks.length kc] w1 (DoIs w1 cs false (-1) 0)) ∧ (∀ (w1 : World) (a1 : Option Addr) (c1 : Nat), Files w1 w1.heap.size (.slice a1 cs.length c1) cs → Calls Try.prog 24 #[.agg #[.slice a1 cs.length c1, .bool false, .int .i64 (-1)], .string nm] w1 fun e w' => e = .returned (.tuple #[.string (addF fs nm da).da, .int .i64 0]) ∧ Below w1.heap.size w1 w'))) := by
      by_cases hf0 : fu2 = 0
      · exact ⟨_, _, _, _, hsyn.1 hf0, hgf, hgl, .inl ⟨rfl, rfl⟩⟩
      · obtain ⟨hs, h1, h2, h3, h4, h5⟩ := hsyn.2 hf0
        obtain ⟨k1, k2⟩ := crash_look (ks := ks) h2 h3 rfl
        have hcv : Fine (crS hs ks hs.length) := by
          have := crV_fine hs ks h4
          unfold crV at this
          rwa [if_pos h2] at this
        refine ⟨_, _, _, _, h1, h4, by omega, .inr ⟨rfl, crS hs ks hs.length, hcv, by rw [crS_len]; omega, fun w1 a1 c1 hf hb => crash_own _ _ false _ hs ks w1 hf (HK.on hb) h2, fun w1 a1 c1 hf => ?_⟩⟩
        have := read_own (.slice a1 (crS hs ks hs.length).length c1) false (-1) (crS hs ks hs.length) nm w1 hf
        unfold ReadIs at this
        rw [(rd_some k1 k2).1, (rd_some k1 k2).2] at this
        exact this
    rw [hse] at HSY
    by_cases hot : ot = nm
    · exact behind_same a c ka kc false fu fs ks nm da ot w HV HK _ _ hre HR1 gs fu2 HA _ hnow hysz HR2 _ _ HRX _ _ (fun w1 a1 c1 hf => HRN w1 a1 c1 ot hf) hot hgf hgl hs dn3 fu3 r3 HSY hf3 hl3 hcase
    · obtain ⟨e1, e2⟩ := rd_same h0 h9 (hne ot hot)
      refine behind_else a c ka kc false fu fs ks nm da ot w HV HK _ _ hre HR1 gs fu2 HA _ hnow hysz HR2 _ _ HRX (fun w1 a1 c1 hf => ?_) hot hgf hgl hs dn3 fu3 r3 HSY hf3 hl3 hcase
      have := HRN w1 a1 c1 ot hf
      rw [e1, e2] at this
      exact this
  · by_cases h8 : (addO fs dn fu nm da).r = 8
    · rw [h8] at HA
      exact behind_power a c ka kc dn fu fs ks nm da ot w HV HK _ _ HR1 _ _ _ HA
    · have hs := outO_not hr h8
      refine behind_not a c ka kc dn fu fs ks nm da ot w HV HK _ _ HR1 _ _ _ _ HA ?_ ?_ hr h8 hs
      · rcases hs with ⟨-, -, h⟩ | ⟨-, -, h⟩
        · show Fine (outO _ _ _ _ _ _).fs; rw [h]; intro f hf; simp at hf
        · show Fine (outO _ _ _ _ _ _).fs; rw [h]; exact HV.fine
      · rcases hs with ⟨-, -, h⟩ | ⟨-, -, h⟩
        · show (outO _ _ _ _ _ _).fs.length ≤ _; rw [h]; simp
        · show (outO _ _ _ _ _ _).fs.length ≤ _; rw [h]; exact HV.len
end Dk
end Go.Proofs.Ytohhiheebhcgeaa
