/-
  THE DOCUMENT's Put of a snapshot's bytes, whole.
-/
import Derived.Test.YtgahilemlnoabaaGreatSnapPut
import Derived.Test.YtgahilemlnoabaaGreatDkR
namespace Go.Proofs.YtgahilemlnoabaaGreat
open Go.RowKit Go.Lib Go.Sort
namespace Dk
/-- What stands between the changes of a rewrite, at a right disk. -/
theorem fit_snap (fs : List Fl) (fu : Int) (da : ByteArray) (hda : da.size ≤ 70000) (h0 : chkN fs = 0) (hs : ∀ f ∈ fs, f.da.size ≤ 140737488355328) (hlo : -9223372036854775808 ≤ fu) (hhi : fu ≤ 9223372036854775807) :
    ∀ k, k ≤ 4 → Inv da.size (seqO nSn nSt da fs false fu k) ∧ (seqO nSn nSt da fs false fu k).fs.length * 40 ≤ 140737488355328 := by
  have hl := (chk_fine fs h0).1
  have hi0 : Inv da.size ⟨fs, false, fu, 0⟩ := ⟨hlo, hhi, small_fine (by omega) h0 hs, by show fs.length ≤ _; omega, fun f hf => by have := hs f hf; omega⟩
  obtain ⟨h1, h2, h3, h4⟩ := sq_all 140737488355328 (by omega) fs da hda fu h0 hs hlo hhi
  have hq : ∀ k o, Sq 140737488355328 fs da k o → Inv da.size o ∧ o.fs.length * 40 ≤ 140737488355328 := fun k o h => ⟨h.inv (by omega) hda, by have := (chk_fine _ h.chk).1; omega⟩
  intro k hk
  have h5 : k = 0 ∨ k = 1 ∨ k = 2 ∨ k = 3 ∨ k = 4 := by omega
  rcases h5 with rfl | rfl | rfl | rfl | rfl
  · exact ⟨hi0, by show fs.length * 40 ≤ _; omega⟩
  · exact hq _ _ h1
  · exact hq _ _ h2
  · exact hq _ _ h3
  · exact hq _ _ h4
theorem seq_next (da : ByteArray) (fs : List Fl) (dn : Bool) (fu : Int) (k : Nat) (h : (seqO nSn nSt da fs dn fu k).r = 0) : seqO nSn nSt da fs dn fu (k + 1) = stp nSn nSt da k (seqO nSn nSt da fs dn fu k).fs (seqO nSn nSt da fs dn fu k).dn (seqO nSn nSt da fs dn fu k).fu := (seq_succ ..).trans (thenO_ok h)
theorem seq_at (da : ByteArray) (fs : List Fl) (dn : Bool) (fu : Int) (k : Nat) (hk : k ≤ 4) (h : ¬ (seqO nSn nSt da fs dn fu k).r = 0) : seqO nSn nSt da fs dn fu 4 = seqO nSn nSt da fs dn fu k := by
  obtain ⟨j, e⟩ : ∃ j, 4 = k + j := ⟨4 - k, by omega⟩
  rw [show seqO nSn nSt da fs dn fu 4 = seqO nSn nSt da fs dn fu (k + j) by rw [← e]]
  exact seq_stop nSn nSt da fs dn fu k h j
theorem out_eta (o : Out) : o = ⟨o.fs, o.dn, o.fu, o.r⟩ := rfl
theorem seq_at2 (da : ByteArray) (fs : List Fl) (dn : Bool) (fu : Int) (k : Nat) (hk : k ≤ 4) (h : ¬ (seqO nSn nSt da fs dn fu k).r = 0) : seqO nSn nSt da fs dn fu 4 = ⟨(seqO nSn nSt da fs dn fu k).fs, (seqO nSn nSt da fs dn fu k).dn, (seqO nSn nSt da fs dn fu k).fu, (seqO nSn nSt da fs dn fu k).r⟩ := (seq_at da fs dn fu k hk h).trans (out_eta _)
set_option maxHeartbeats 2000000 in
theorem put_snap (dv : Value) (fu : Int) (fs : List Fl) (da : ByteArray) (hda : da.size ≤ 70000) (hz : chkN fs = 0) (hs : ∀ f ∈ fs, f.da.size ≤ 140737488355328) (hlo : -9223372036854775808 ≤ fu) (hhi : fu ≤ 9223372036854775807) (w : World) (hf : Files w w.heap.size dv fs) :
    Calls Tryz.prog 28 #[.agg #[dv, .bool false, .int .i64 fu], .string ⟨#[115, 110, 97, 112]⟩, .string da] w (PutIs w (seqO nSn nSt da fs false fu 4)) := by
  have h40 : fs.length * 40 ≤ 140737488355328 := by have := (chk_fine fs hz).1; omega
  have hfit := fit_snap fs fu da hda hz hs hlo hhi
  have HR : ∀ x v, Files x x.heap.size v fs → Calls Tryz.prog 15 #[.agg #[v, .bool false, .int .i64 fu], .string ⟨#[115, 110, 97, 112, 46, 116, 109, 112]⟩] x fun e w' => e = .returned (.tuple #[.string (rdS fs false nSt), .int .i64 (rdE fs false nSt : Nat)]) ∧ Below x.heap.size x w' := fun x v hx => read_ref v false fu fs nSt x hx
  have F : ∀ k, k ≤ 4 → Fine (seqO nSn nSt da fs false fu k).fs ∧ (seqO nSn nSt da fs false fu k).fs.length ≤ 4611686018427387904 := fun k hk => ⟨(hfit k hk).1.fine, (hfit k hk).1.len⟩
  have HA : (seqO nSn nSt da fs false fu 1).r = 0 → (∀ x v, Files x x.heap.size v (seqO nSn nSt da fs false fu 1).fs → Calls Tryz.prog 64 #[.agg #[v, .bool (seqO nSn nSt da fs false fu 1).dn, .int .i64 (seqO nSn nSt da fs false fu 1).fu], .string ⟨#[115, 110, 97, 112, 46, 116, 109, 112]⟩, .string da] x (DoIs x (seqO nSn nSt da fs false fu 2).fs (seqO nSn nSt da fs false fu 2).dn (seqO nSn nSt da fs false fu 2).fu (seqO nSn nSt da fs false fu 2).r)) := by
    intro h1 x v hx
    obtain ⟨hi, hl⟩ := hfit 1 (by omega)
    have e := seq_next da fs false fu 1 h1
    rw [e]
    exact add_ref v _ _ _ nSt da hi.lo hi.hi hl (by omega) hi.room x hx
  have HSy : (seqO nSn nSt da fs false fu 2).r = 0 → (∀ x v, Files x x.heap.size v (seqO nSn nSt da fs false fu 2).fs → Calls Tryz.prog 65 #[.agg #[v, .bool (seqO nSn nSt da fs false fu 2).dn, .int .i64 (seqO nSn nSt da fs false fu 2).fu], .string ⟨#[115, 110, 97, 112, 46, 116, 109, 112]⟩] x (DoIs x (seqO nSn nSt da fs false fu 3).fs (seqO nSn nSt da fs false fu 3).dn (seqO nSn nSt da fs false fu 3).fu (seqO nSn nSt da fs false fu 3).r)) := by
    intro h1 x v hx
    obtain ⟨hi, hl⟩ := hfit 2 (by omega)
    have e := seq_next da fs false fu 2 h1
    rw [e]
    exact sync_ref v _ _ _ nSt hi.lo hi.hi hl x hx
  have HSw : (seqO nSn nSt da fs false fu 3).r = 0 → (∀ x v, Files x x.heap.size v (seqO nSn nSt da fs false fu 3).fs → Calls Tryz.prog 66 #[.agg #[v, .bool (seqO nSn nSt da fs false fu 3).dn, .int .i64 (seqO nSn nSt da fs false fu 3).fu], .string ⟨#[115, 110, 97, 112, 46, 116, 109, 112]⟩, .string ⟨#[115, 110, 97, 112]⟩] x (DoIs x (seqO nSn nSt da fs false fu 4).fs (seqO nSn nSt da fs false fu 4).dn (seqO nSn nSt da fs false fu 4).fu (seqO nSn nSt da fs false fu 4).r)) := by
    intro h1 x v hx
    obtain ⟨hi, hl⟩ := hfit 3 (by omega)
    have e := seq_next da fs false fu 3 h1
    rw [e]
    exact swap_ref v _ _ _ nSt nSn hi.lo hi.hi hl x hx
  have e1 : seqO nSn nSt da fs false fu 1 = rw1 nSt fs false fu := seq_next da fs false fu 0 rfl
  by_cases h6 : rdE fs false nSt = 6
  · have e2 : seqO nSn nSt da fs false fu 1 = ⟨fs, false, fu, 0⟩ := by rw [e1]; unfold rw1; rw [if_pos h6]
    have h1 : (seqO nSn nSt da fs false fu 1).r = 0 := by rw [e2]
    have HA1 := HA h1
    rw [e2] at HA1
    exact put_skip dv false fu fs da _ _ _ (by omega) _ _ _ _ (F 2 (by omega)) _ _ _ _ (F 3 (by omega)) _ _ _ _ (F 4 (by omega)) HR HA1 (fun h2 => HSy h2) (fun _ h3 => HSw h3) (fun h => seq_at2 da fs false fu 2 (by omega) h) (fun _ h => seq_at2 da fs false fu 3 (by omega) h) (fun _ _ => out_eta _) w hf
  · by_cases h0 : rdE fs false nSt = 0
    · have e2 : seqO nSn nSt da fs false fu 1 = drpO fs false fu nSt := by rw [e1]; unfold rw1; rw [if_neg h6]
      exact put_drop dv false fu fs da _ _ _ h0 _ _ _ _ (F 1 (by omega)) _ _ _ _ (F 2 (by omega)) _ _ _ _ (F 3 (by omega)) _ _ _ _ (F 4 (by omega)) HR (fun x v hx => by rw [e2]; exact drop_ref v fs false fu nSt hlo hhi h40 x hx) HA (fun _ h2 => HSy h2) (fun _ _ h3 => HSw h3) (fun h => seq_at2 da fs false fu 1 (by omega) h) (fun _ h => seq_at2 da fs false fu 2 (by omega) h) (fun _ _ h => seq_at2 da fs false fu 3 (by omega) h) (fun _ _ _ => out_eta _) w hf
    · exfalso
      unfold rdE rdN at h0 h6
      rw [if_pos hz] at h0 h6
      simp at h0 h6
      omega
end Dk
end Go.Proofs.YtgahilemlnoabaaGreat
