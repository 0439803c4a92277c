/-
  A COMMAND read: order.Decode.
-/
import Derived.Test.YthlchdlgafincaaOrdForm
import Derived.Test.YthlchdlgafincaaOrA
import Derived.Test.YthlchdlgafincaaOrdTdd
namespace Go.Proofs.Ythlchdlgafincaa
open Go.RowKit
namespace Hd
open PM Hc Rg
theorem ttT_length (l : List UInt8) : (ttT l).length ≤ l.length := by
  unfold ttT
  split
  · rw [List.length_take]; have := tnR_length l; omega
  · exact Nat.zero_le _
theorem bs_le {l : List UInt8} {n : Nat} (h : l.length ≤ n) : (bs (ttT l)).size ≤ n := by rw [bs_size]; exact Nat.le_trans (ttT_length l) h
theorem paL_sizes (l : List UInt8) : ∀ k, ∀ p ∈ paL l k, p.k.size ≤ l.length ∧ p.v.size ≤ l.length
  | 0, p, h => by simp [paL] at h
  | k + 1, p, h => by
    rw [paL, List.mem_append] at h
    rcases h with h | h
    · exact paL_sizes l k p h
    · simp only [List.mem_singleton] at h
      subst h
      exact ⟨bs_le (paR_length l k), bs_le (Nat.le_trans (ttR_length _) (paR_length l k))⟩
/-- Lists that were taken of so many bytes. -/
def Took (ps : List Rg.Pr) (n : Nat) : Prop := ps.length ≤ 4 ∧ ∀ p ∈ ps, p.k.size ≤ n ∧ p.v.size ≤ n
theorem prL_took {l : List UInt8} {n : Nat} (h : l.length ≤ n) : Took (prL l) n := ⟨prL_length l, fun p hp => by have := paL_sizes l _ p hp; omega⟩
theorem nil_took (n : Nat) : Took [] n := ⟨by simp, by simp⟩
structure TookC (m : Cd) (n : Nat) : Prop where
  a : Took m.nd.ls n
  b : Took m.nd.ts n
  c : Took m.td.ws n
  d : Took m.td.bs n
theorem ndR_length (l : List UInt8) : (ndR l).length ≤ l.length := Nat.le_trans (prR_length _) (Nat.le_trans (prR_length _) (Nat.le_trans (taR3_length _) (ttR_length l)))
theorem ndT_took {l : List UInt8} {n : Nat} (h2 : (taR (ttR l) 3).length ≤ n) (h3 : (prR (taR (ttR l) 3)).length ≤ n) : Took (ndT l).ls n ∧ Took (ndT l).ts n := by
  simp only [ndT]
  exact ⟨prL_took h2, prL_took h3⟩
theorem tkT_took {l : List UInt8} {n : Nat} (h2 : (taR (ttR l) 3).length ≤ n) (h3 : (prR (taR (ttR l) 3)).length ≤ n) : Took (tkT l).ws n ∧ Took (tkT l).bs n := by
  simp only [tkT]
  exact ⟨prL_took h2, prL_took h3⟩
theorem fdT_took (cl sq k : Nat) (l : List UInt8) (n : Nat) (h : l.length ≤ n) (hn : n ≤ maxLen) (hcl : cl < 2 ^ 64) (hsq : sq < 2 ^ 64) (hk : k ≤ 8) :
    TookC (fdT cl sq k l) n ∧ Lens (fdT cl sq k l) ∧ Bnd (fdT cl sq k l) := by
  have h1 := Nat.le_trans (ttR_length l) h
  have h2 := Nat.le_trans (taR3_length (ttR l)) h1
  have h3 := Nat.le_trans (prR_length (taR (ttR l) 3)) h2
  have h4 := Nat.le_trans (ndR_length l) h
  have h5 := Nat.le_trans (ttR_length (ndR l)) h4
  have z : (0 : Nat) ≤ maxLen := Nat.zero_le _
  have hn1 := ndT_took h2 h3
  have ht1 := tkT_took h2 h3
  unfold fdT
  split
  · exact ⟨⟨hn1.1, hn1.2, nil_took _, nil_took _⟩, ⟨Nat.le_trans (bs_le h) hn, z, z, z, z, z⟩, ⟨hcl, hsq, by simp only; omega, by show (0 : Nat) < 2 ^ 64; decide⟩⟩
  · split
    · exact ⟨⟨nil_took _, nil_took _, ht1.1, ht1.2⟩, ⟨z, Nat.le_trans (bs_le h) hn, Nat.le_trans (bs_le h4) hn, Nat.le_trans (bs_le h5) hn, z, z⟩, ⟨hcl, hsq, by simp only; omega, by show (0 : Nat) < 2 ^ 64; decide⟩⟩
    · split
      · exact ⟨⟨nil_took _, nil_took _, nil_took _, nil_took _⟩, ⟨z, z, z, z, Nat.le_trans (bs_le h) hn, Nat.le_trans (bs_le h1) hn⟩, ⟨hcl, hsq, by simp only; omega, tnN_lt _⟩⟩
      · exact ⟨⟨nil_took _, nil_took _, nil_took _, nil_took _⟩, ⟨z, z, z, z, Nat.le_trans (bs_le h) hn, z⟩, ⟨hcl, hsq, by simp only; omega, by show (0 : Nat) < 2 ^ 64; decide⟩⟩
theorem cmT_took (l : List UInt8) (h : l.length ≤ maxLen) : TookC (cmT l) maxLen ∧ Lens (cmT l) ∧ Bnd (cmT l) :=
  fdT_took _ _ _ _ _ (Nat.le_trans (cmF_length l) h) (Nat.le_refl _) (tnN_lt _) (tnN_lt _) (upV_le 8 _)
theorem Rows.prs {w : World} {base : Nat} {c : Cd} {v2 v3 v4 v5 : Value} (h : Rows w base c v2 v3 v4 v5) (ht : TookC c maxLen) : PrsIn w w.heap.size c v2 v3 v4 v5 :=
  ⟨h.1.pairs (by have := ht.a.1; omega) ht.a.2, h.2.1.pairs (by have := ht.b.1; omega) ht.b.2, h.2.2.1.pairs (by have := ht.c.1; omega) ht.c.2, h.2.2.2.pairs (by have := ht.d.1; omega) ht.d.2⟩
theorem Rows.below {w w' : World} {base : Nat} {c : Cd} {v2 v3 v4 v5 : Value} (h : Rows w base c v2 v3 v4 v5) (hb : Below w.heap.size w w') : Rows w' base c v2 v3 v4 v5 :=
  ⟨h.1.below hb, h.2.1.below hb, h.2.2.1.below hb, h.2.2.2.below hb⟩
theorem Rows.less {w : World} {base b2 : Nat} {c : Cd} {v2 v3 v4 v5 : Value} (h : Rows w base c v2 v3 v4 v5) (hb : b2 ≤ base) : Rows w b2 c v2 v3 v4 v5 :=
  ⟨h.1.less hb, h.2.1.less hb, h.2.2.1.less hb, h.2.2.2.less hb⟩
/-- Whether bytes are a right command's; what is read of them. -/
def cmN (l : List UInt8) : Bool := !(cmB l) && (cmR l).isEmpty
def dcOk (l : List UInt8) : Bool := cmN l && ckB (cmT l)
def dcT (l : List UInt8) : Cd := if dcOk l = true then cmT l else cd0 0 0 0
/-- What reading comes to. -/
def DcIs (l : List UInt8) (base : Nat) (e : Ending) (w' : World) : Prop := ∃ v, e = .returned (.tuple #[v, .int .i64 (coE (dcOk l) : Nat)]) ∧ CmdIs w' base v (dcT l)
theorem DcIs.no {l : List UInt8} (base : Nat) (w' : World) (h : dcOk l = false) : DcIs l base (.returned (.tuple #[.agg (cdC (cd0 0 0 0) nilS nilS nilS nilS).toArray, .int .i64 4])) w' := by
  unfold DcIs dcT coE
  rw [h]
  exact ⟨_, rfl, _, _, _, _, rfl, OwnP.nil _ _, OwnP.nil _ _, OwnP.nil _ _, OwnP.nil _ _⟩
theorem DcIs.yes {l : List UInt8} {base : Nat} {w' : World} {v2 v3 v4 v5 : Value} (h : dcOk l = true) (hr : Rows w' base (cmT l) v2 v3 v4 v5) : DcIs l base (.returned (.tuple #[.agg (cdC (cmT l) v2 v3 v4 v5).toArray, .int .i64 0])) w' := by
  unfold DcIs dcT coE
  rw [h]
  exact ⟨_, rfl, _, _, _, _, rfl, hr⟩
/-- Where the reading stands: the box of the result, the box of the command. -/
structure Ds (w0 : World) (R C : Nat) (rs cs : List Value) (x : World) : Prop where
  rb : Bxn x R rs
  cb : Bxn x C cs
  be : Below w0.heap.size w0 x
  hr : w0.heap.size ≤ R
  rc : R ≠ C
theorem Ds.below {w0 x x' : World} {R C : Nat} {rs cs : List Value} (h : Ds w0 R C rs cs x) (hb : Below x.heap.size x x') : Ds w0 R C rs cs x' := ⟨h.rb.below hb, h.cb.below hb, h.be.trans (hb.mono h.be.size), h.hr, h.rc⟩
theorem Ds.all {w0 x : World} {R C : Nat} {rs cs : List Value} (h : Ds w0 R C rs cs x) (vs : List Value) (hl : vs.length = rs.length) : Ds w0 R C vs cs (x.setCells R 0 vs) := by
  have ho := only_setCells R vs 0 x
  exact ⟨h.rb.all vs hl, h.cb.only ho h.rc.symm, h.be.grown ho h.be.size (fun k e => by injection e with e; have := h.hr; omega), h.hr, h.rc⟩
set_option maxRecDepth 100000 in
set_option maxHeartbeats 4000000 in
theorem cmd_decode (l : List UInt8) (w : World) (hl : l.length ≤ maxLen) :
    Calls Try.prog 12 #[.string (bs l)] w fun e w' => DcIs l w.heap.size e w' ∧ Below w.heap.size w w' := by
  have HR : Hid (∀ z, Below (w.alloc (.cells #[.int .u64 0, .int .u64 0, .int .u8 0, .string ⟨#[]⟩, .int .i64 0, .int .i64 0, .int .i64 0, .slice none 0 0, .slice none 0 0, .string ⟨#[]⟩, .int .i64 0, .int .i64 0, .int .i64 0, .slice none 0 0, .slice none 0 0, .string ⟨#[]⟩, .string ⟨#[]⟩, .int .i64 0, .string ⟨#[]⟩, .string ⟨#[]⟩, .int .u64 0] 33)).heap.size (w.alloc (.cells #[.int .u64 0, .int .u64 0, .int .u8 0, .string ⟨#[]⟩, .int .i64 0, .int .i64 0, .int .i64 0, .slice none 0 0, .slice none 0 0, .string ⟨#[]⟩, .int .i64 0, .int .i64 0, .int .i64 0, .slice none 0 0, .slice none 0 0, .string ⟨#[]⟩, .string ⟨#[]⟩, .int .i64 0, .string ⟨#[]⟩, .string ⟨#[]⟩, .int .u64 0] 33)) z → Bxn z w.heap.size [.int .u64 0, .int .u64 0, .int .u8 0, .string ⟨#[]⟩, .int .i64 0, .int .i64 0, .int .i64 0, .slice none 0 0, .slice none 0 0, .string ⟨#[]⟩, .int .i64 0, .int .i64 0, .int .i64 0, .slice none 0 0, .slice none 0 0, .string ⟨#[]⟩, .string ⟨#[]⟩, .int .i64 0, .string ⟨#[]⟩, .string ⟨#[]⟩, .int .u64 0] ∧ Below w.heap.size w z) := fun z hb => ⟨(Bxn.made w _ _).below hb, ((Below.refl w.heap.size w).alloc (Nat.le_refl _) _).trans (hb.mono (by simp))⟩
  have HO := Lib.hid (fun z => cof_any (bs l) z)
  have HT := Lib.hid (fun g z (hz : Tk z g l false) => command_take g l false z hz hl)
  have hd : ∀ g z, Tk z g (cmR l) (cmB l) → Calls Try.prog 27 #[.pointer (some ⟨g, 0, none⟩)] z fun e w' => e = .returned (.bool (cmN l)) ∧ z = w' := fun g z hz => done_part g _ _ z hz
  have ht := cmT_took l hl
  have HTK := Lib.hid ht.1
  have hc : ∀ (z : World) v2 v3 v4 v5, PrsIn z z.heap.size (cmT l) v2 v3 v4 v5 → Calls Try.prog 16 #[.agg (cdC (cmT l) v2 v3 v4 v5).toArray] z fun e w' => e = .returned (.int .i64 (coE (ckB (cmT l)) : Nat)) ∧ Below z.heap.size z w' := fun z v2 v3 v4 v5 hp => check_cmd _ _ _ _ _ z hp ht.2.1
  have hok : dcOk l = (cmN l && ckB (cmT l)) := rfl
  have HNO := Lib.hid (fun z (h : dcOk l = false) => DcIs.no w.heap.size z h)
  have HYE := Lib.hid (fun (h : dcOk l = true) z v2 v3 v4 v5 hr => DcIs.yes (base := w.heap.size) (w' := z) (v2 := v2) (v3 := v3) (v4 := v4) (v5 := v5) h hr)
  clear hl ht
  generalize cmN l = bn at *
  generalize cmT l = C at *
  go_enter Try.func12, Try.ntmps12
  go_upto_region 1 with fail
  generalize w.alloc (.cells #[.int .u64 0, .int .u64 0, .int .u8 0, .string ⟨#[]⟩, .int .i64 0, .int .i64 0, .int .i64 0, .slice none 0 0, .slice none 0 0, .string ⟨#[]⟩, .int .i64 0, .int .i64 0, .int .i64 0, .slice none 0 0, .slice none 0 0, .string ⟨#[]⟩, .string ⟨#[]⟩, .int .i64 0, .string ⟨#[]⟩, .string ⟨#[]⟩, .int .u64 0] 33) = W0 at *
  go_wp2_with fail
  refine (HO.out _).mono ?_
  rintro e w1 ⟨rfl, hb⟩
  have HD1 := Lib.hid (HR.out _ hb)
  clear hb
  go_wp2_with fail
  refine (HT.out _ _ (Tk.made _ w1 l false)).mono ?_
  rintro e w2 ⟨v, rfl, ⟨v2, v3, v4, v5, rfl, hr⟩, h2, ho2⟩
  have hlt := HD1.out.1.lt
  have ha : Below w1.heap.size w1 (w1.alloc (.cells #[.string (bs l), .bool false] 72)) := (Below.refl _ _).alloc (Nat.le_refl _) _
  have hb2 : Below w.heap.size w w2 := (HD1.out.2.trans (ha.mono (by omega))).trans (ho2.below (by simp; omega) (by omega))
  have hx2 : Bxn w2 w.heap.size [.int .u64 0, .int .u64 0, .int .u8 0, .string ⟨#[]⟩, .int .i64 0, .int .i64 0, .int .i64 0, .slice none 0 0, .slice none 0 0, .string ⟨#[]⟩, .int .i64 0, .int .i64 0, .int .i64 0, .slice none 0 0, .slice none 0 0, .string ⟨#[]⟩, .string ⟨#[]⟩, .int .i64 0, .string ⟨#[]⟩, .string ⟨#[]⟩, .int .u64 0] := (HD1.out.1.below ha).only ho2 (by omega)
  have hg2 := h2.lt
  have hz : w2.heap.size < (w2.alloc (.cells #[.int .u64 0, .int .u64 0, .int .u8 0, .string ⟨#[]⟩, .int .i64 0, .int .i64 0, .int .i64 0, .slice none 0 0, .slice none 0 0, .string ⟨#[]⟩, .int .i64 0, .int .i64 0, .int .i64 0, .slice none 0 0, .slice none 0 0, .string ⟨#[]⟩, .string ⟨#[]⟩, .int .i64 0, .string ⟨#[]⟩, .string ⟨#[]⟩, .int .u64 0] 33)).heap.size := by simp
  have hb3 : Below w2.heap.size w2 (w2.alloc (.cells #[.int .u64 0, .int .u64 0, .int .u8 0, .string ⟨#[]⟩, .int .i64 0, .int .i64 0, .int .i64 0, .slice none 0 0, .slice none 0 0, .string ⟨#[]⟩, .int .i64 0, .int .i64 0, .int .i64 0, .slice none 0 0, .slice none 0 0, .string ⟨#[]⟩, .string ⟨#[]⟩, .int .i64 0, .string ⟨#[]⟩, .string ⟨#[]⟩, .int .u64 0] 33)) := (Below.refl _ _).alloc (Nat.le_refl _) _
  have HM : Hid (Bxn (w2.alloc (.cells #[.int .u64 0, .int .u64 0, .int .u8 0, .string ⟨#[]⟩, .int .i64 0, .int .i64 0, .int .i64 0, .slice none 0 0, .slice none 0 0, .string ⟨#[]⟩, .int .i64 0, .int .i64 0, .int .i64 0, .slice none 0 0, .slice none 0 0, .string ⟨#[]⟩, .string ⟨#[]⟩, .int .i64 0, .string ⟨#[]⟩, .string ⟨#[]⟩, .int .u64 0] 33)) w2.heap.size [.int .u64 0, .int .u64 0, .int .u8 0, .string ⟨#[]⟩, .int .i64 0, .int .i64 0, .int .i64 0, .slice none 0 0, .slice none 0 0, .string ⟨#[]⟩, .int .i64 0, .int .i64 0, .int .i64 0, .slice none 0 0, .slice none 0 0, .string ⟨#[]⟩, .string ⟨#[]⟩, .int .i64 0, .string ⟨#[]⟩, .string ⟨#[]⟩, .int .u64 0]) := Bxn.made w2 _ _
  obtain ⟨s2, d2, rfl⟩ := hr.1.slice
  obtain ⟨s3, d3, rfl⟩ := hr.2.1.slice
  obtain ⟨s4, d4, rfl⟩ := hr.2.2.1.slice
  obtain ⟨s5, d5, rfl⟩ := hr.2.2.2.slice
  have ho4 := only_setCells w2.heap.size (cdC C (.slice s2 C.nd.ls.length d2) (.slice s3 C.nd.ts.length d3) (.slice s4 C.td.ws.length d4) (.slice s5 C.td.bs.length d5)) 0 (w2.alloc (.cells #[.int .u64 0, .int .u64 0, .int .u8 0, .string ⟨#[]⟩, .int .i64 0, .int .i64 0, .int .i64 0, .slice none 0 0, .slice none 0 0, .string ⟨#[]⟩, .int .i64 0, .int .i64 0, .int .i64 0, .slice none 0 0, .slice none 0 0, .string ⟨#[]⟩, .string ⟨#[]⟩, .int .i64 0, .string ⟨#[]⟩, .string ⟨#[]⟩, .int .u64 0] 33))
  have HX4 := Lib.hid (HM.out.all (cdC C (.slice s2 C.nd.ls.length d2) (.slice s3 C.nd.ts.length d3) (.slice s4 C.td.ws.length d4) (.slice s5 C.td.bs.length d5)) rfl)
  have HD4 : Hid (Ds w w.heap.size w2.heap.size [.int .u64 0, .int .u64 0, .int .u8 0, .string ⟨#[]⟩, .int .i64 0, .int .i64 0, .int .i64 0, .slice none 0 0, .slice none 0 0, .string ⟨#[]⟩, .int .i64 0, .int .i64 0, .int .i64 0, .slice none 0 0, .slice none 0 0, .string ⟨#[]⟩, .string ⟨#[]⟩, .int .i64 0, .string ⟨#[]⟩, .string ⟨#[]⟩, .int .u64 0] (cdC C (.slice s2 C.nd.ls.length d2) (.slice s3 C.nd.ts.length d3) (.slice s4 C.td.ws.length d4) (.slice s5 C.td.bs.length d5)) ((w2.alloc (.cells #[.int .u64 0, .int .u64 0, .int .u8 0, .string ⟨#[]⟩, .int .i64 0, .int .i64 0, .int .i64 0, .slice none 0 0, .slice none 0 0, .string ⟨#[]⟩, .int .i64 0, .int .i64 0, .int .i64 0, .slice none 0 0, .slice none 0 0, .string ⟨#[]⟩, .string ⟨#[]⟩, .int .i64 0, .string ⟨#[]⟩, .string ⟨#[]⟩, .int .u64 0] 33)).setCells w2.heap.size 0 (cdC C (.slice s2 C.nd.ls.length d2) (.slice s3 C.nd.ts.length d3) (.slice s4 C.td.ws.length d4) (.slice s5 C.td.bs.length d5)))) := ⟨(hx2.below hb3).only ho4 (by omega), HX4.out, (hb2.trans (hb3.mono hb2.size)).grown ho4 (Nat.le_trans hb2.size hb3.size) (fun k e => by injection e with e; have := hb2.size; omega), Nat.le_refl _, by have := hx2.lt; omega⟩
  have HK4 := Lib.hid ((h2.below hb3 hg2).off ho4 (by omega))
  have HR4 : Hid (Rows ((w2.alloc (.cells #[.int .u64 0, .int .u64 0, .int .u8 0, .string ⟨#[]⟩, .int .i64 0, .int .i64 0, .int .i64 0, .slice none 0 0, .slice none 0 0, .string ⟨#[]⟩, .int .i64 0, .int .i64 0, .int .i64 0, .slice none 0 0, .slice none 0 0, .string ⟨#[]⟩, .string ⟨#[]⟩, .int .i64 0, .string ⟨#[]⟩, .string ⟨#[]⟩, .int .u64 0] 33)).setCells w2.heap.size 0 (cdC C (.slice s2 C.nd.ls.length d2) (.slice s3 C.nd.ts.length d3) (.slice s4 C.td.ws.length d4) (.slice s5 C.td.bs.length d5))) (w.heap.size + 1) C (.slice s2 C.nd.ls.length d2) (.slice s3 C.nd.ts.length d3) (.slice s4 C.td.ws.length d4) (.slice s5 C.td.bs.length d5)) := by
    have k1 := hr.below hb3
    have hn : ∀ v ps, OwnP w2 ((w1.alloc (.cells #[.string (bs l), .bool false] 72)).heap.size + 2) v ps → v.ownBlock ≠ some w2.heap.size := fun v ps h => h.blk (Nat.le_refl _)
    exact ⟨(k1.1.only ho4 (hn _ _ hr.1)).less (by rw [World.size_alloc]; omega), (k1.2.1.only ho4 (hn _ _ hr.2.1)).less (by rw [World.size_alloc]; omega), (k1.2.2.1.only ho4 (hn _ _ hr.2.2.1)).less (by rw [World.size_alloc]; omega), (k1.2.2.2.only ho4 (hn _ _ hr.2.2.2)).less (by rw [World.size_alloc]; omega)⟩
  have hth := HM.out.there 21 rfl
  have hone := all_oneCell_toArray (cdC_one C (.slice s2 C.nd.ls.length d2) (.slice s3 C.nd.ts.length d3) (.slice s4 C.td.ws.length d4) (.slice s5 C.td.bs.length d5) rfl rfl rfl rfl)
  clear hr ha hb2 hx2 hg2 hb3 HM h2 ho2 hlt hz ho4 HX4 HT HO HR HD1
  dsimp only
  refine ‹∀ (a : Act) (w : World), wpList Try.prog _ _ _ a w → _› _ _ ?_
  refine wpList_plain rfl fun K hK => ?_
  go_simp
  refine hK _ _ ?_
  clear hK K
  refine wpList_store_mid rfl 33 (.tmp 5) (.tmp 9) rfl w2.heap.size 0 (cdC C (.slice s2 C.nd.ls.length d2) (.slice s3 C.nd.ts.length d3) (.slice s4 C.td.ws.length d4) (.slice s5 C.td.bs.length d5)).toArray rfl rfl hth rfl hone ?_
  clear hth hone
  refine wpList_nil ?_
  rw [show (cdC C (.slice s2 C.nd.ls.length d2) (.slice s3 C.nd.ts.length d3) (.slice s4 C.td.ws.length d4) (.slice s5 C.td.bs.length d5)).toArray.toList = cdC C (.slice s2 C.nd.ls.length d2) (.slice s3 C.nd.ts.length d3) (.slice s4 C.td.ws.length d4) (.slice s5 C.td.bs.length d5) from rfl]
  generalize (w2.alloc (.cells #[.int .u64 0, .int .u64 0, .int .u8 0, .string ⟨#[]⟩, .int .i64 0, .int .i64 0, .int .i64 0, .slice none 0 0, .slice none 0 0, .string ⟨#[]⟩, .int .i64 0, .int .i64 0, .int .i64 0, .slice none 0 0, .slice none 0 0, .string ⟨#[]⟩, .string ⟨#[]⟩, .int .i64 0, .string ⟨#[]⟩, .string ⟨#[]⟩, .int .u64 0] 33)).setCells w2.heap.size 0 (cdC C (.slice s2 C.nd.ls.length d2) (.slice s3 C.nd.ts.length d3) (.slice s4 C.td.ws.length d4) (.slice s5 C.td.bs.length d5)) = W4 at *
  generalize w2.heap.size = CB at *
  generalize w1.heap.size = G at *
  cases bn with
  | false =>
    have HN := Lib.hid (fun z => HNO.out z (hok.trans rfl))
    have HDD := Lib.hid hd
    clear hok HNO HYE hc hd
    go_wp2_with fail
    refine (HDD.out _ _ HK4.out).mono ?_
    rintro e w3 ⟨rfl, rfl⟩
    go_upto_region 4 with fail
    refine wp_region_list ?_
    refine wpList_plain rfl fun K hK => ?_
    go_simp
    refine hK _ _ ?_
    clear hK K
    have hth := HD4.out.rb.there 21 rfl
    have HE := Lib.hid (HD4.out.all [.int .u64 0, .int .u64 0, .int .u8 0, .string ⟨#[]⟩, .int .i64 0, .int .i64 0, .int .i64 0, .slice none 0 0, .slice none 0 0, .string ⟨#[]⟩, .int .i64 0, .int .i64 0, .int .i64 0, .slice none 0 0, .slice none 0 0, .string ⟨#[]⟩, .string ⟨#[]⟩, .int .i64 0, .string ⟨#[]⟩, .string ⟨#[]⟩, .int .u64 0] rfl)
    refine wpList_store_mid rfl 33 (.tmp 2) (.tmp 19) rfl w.heap.size 0 #[.int .u64 0, .int .u64 0, .int .u8 0, .string ⟨#[]⟩, .int .i64 0, .int .i64 0, .int .i64 0, .slice none 0 0, .slice none 0 0, .string ⟨#[]⟩, .int .i64 0, .int .i64 0, .int .i64 0, .slice none 0 0, .slice none 0 0, .string ⟨#[]⟩, .string ⟨#[]⟩, .int .i64 0, .string ⟨#[]⟩, .string ⟨#[]⟩, .int .u64 0] rfl rfl hth rfl (all_oneCell_toArray (cdC_one (cd0 0 0 0) nilS nilS nilS nilS rfl rfl rfl rfl)) ?_
    clear hth
    go_wp2
    refine bodyPost_bx2 rfl w.heap.size [.int .u64 0, .int .u64 0, .int .u8 0, .string ⟨#[]⟩, .int .i64 0, .int .i64 0, .int .i64 0, .slice none 0 0, .slice none 0 0, .string ⟨#[]⟩, .int .i64 0, .int .i64 0, .int .i64 0, .slice none 0 0, .slice none 0 0, .string ⟨#[]⟩, .string ⟨#[]⟩, .int .i64 0, .string ⟨#[]⟩, .string ⟨#[]⟩, .int .u64 0] _ rfl rfl ?_ Try.underlying33 rfl rfl ?_
    case refine_1 => exact HE.out.rb
    case refine_2 => exact ⟨HN.out _, HE.out.be⟩
  | true =>
    have HDD := Lib.hid hd
    have HPR := Lib.hid (HR4.out.prs HTK.out)
    have HR0 := Lib.hid (HD4.out.cb.range 0)
    clear hd
    go_wp2_with fail
    refine (HDD.out _ _ HK4.out).mono ?_
    rintro e w3 ⟨rfl, rfl⟩
    dsimp only
    refine ‹∀ (a : Act) (w : World), wpList Try.prog _ _ _ a w → _› _ _ ?_
    refine wpList_plain rfl fun K hK => ?_
    go_simp
    refine hK _ _ ?_
    clear hK K
    refine wpList_plain rfl fun K hK => ?_
    go_simp
    refine hK _ _ ?_
    clear hK K
    refine wl_load_want rfl 33 (.tmp 5) rfl CB 0 rfl (cdC C (.slice s2 C.nd.ls.length d2) (.slice s3 C.nd.ts.length d3) (.slice s4 C.td.ws.length d4) (.slice s5 C.td.bs.length d5)) _ HR0.out Try.underlying33 rfl rfl ?_
    cases hk : ckB C with
    | false =>
      rw [hk] at hc hok
      have HC := Lib.hid hc
      have HN := Lib.hid (fun z => HNO.out z (hok.trans rfl))
      clear hok HNO HYE hc hk
      go_wp2_with fail
      refine (HC.out _ _ _ _ _ HPR.out).mono ?_
      rintro e w5 ⟨rfl, hb⟩
      have HD5 := Lib.hid (HD4.out.below hb)
      clear hb
      go_upto_region 4 with fail
      refine wp_region_list ?_
      refine wpList_plain rfl fun K hK => ?_
      go_simp
      refine hK _ _ ?_
      clear hK K
      have hth := HD5.out.rb.there 21 rfl
      have HE := Lib.hid (HD5.out.all [.int .u64 0, .int .u64 0, .int .u8 0, .string ⟨#[]⟩, .int .i64 0, .int .i64 0, .int .i64 0, .slice none 0 0, .slice none 0 0, .string ⟨#[]⟩, .int .i64 0, .int .i64 0, .int .i64 0, .slice none 0 0, .slice none 0 0, .string ⟨#[]⟩, .string ⟨#[]⟩, .int .i64 0, .string ⟨#[]⟩, .string ⟨#[]⟩, .int .u64 0] rfl)
      refine wpList_store_mid rfl 33 (.tmp 2) (.tmp 19) rfl w.heap.size 0 #[.int .u64 0, .int .u64 0, .int .u8 0, .string ⟨#[]⟩, .int .i64 0, .int .i64 0, .int .i64 0, .slice none 0 0, .slice none 0 0, .string ⟨#[]⟩, .int .i64 0, .int .i64 0, .int .i64 0, .slice none 0 0, .slice none 0 0, .string ⟨#[]⟩, .string ⟨#[]⟩, .int .i64 0, .string ⟨#[]⟩, .string ⟨#[]⟩, .int .u64 0] rfl rfl hth rfl (all_oneCell_toArray (cdC_one (cd0 0 0 0) nilS nilS nilS nilS rfl rfl rfl rfl)) ?_
      clear hth
      go_wp2
      refine bodyPost_bx2 rfl w.heap.size [.int .u64 0, .int .u64 0, .int .u8 0, .string ⟨#[]⟩, .int .i64 0, .int .i64 0, .int .i64 0, .slice none 0 0, .slice none 0 0, .string ⟨#[]⟩, .int .i64 0, .int .i64 0, .int .i64 0, .slice none 0 0, .slice none 0 0, .string ⟨#[]⟩, .string ⟨#[]⟩, .int .i64 0, .string ⟨#[]⟩, .string ⟨#[]⟩, .int .u64 0] _ rfl rfl ?_ Try.underlying33 rfl rfl ?_
      case refine_1 => exact HE.out.rb
      case refine_2 => exact ⟨HN.out _, HE.out.be⟩
    | true =>
      rw [hk] at hc hok
      have HC := Lib.hid hc
      have HY := Lib.hid (fun z v2 v3 v4 v5 hr => HYE.out (hok.trans rfl) z v2 v3 v4 v5 hr)
      clear hok HNO HYE hc hk
      go_wp2_with fail
      refine (HC.out _ _ _ _ _ HPR.out).mono ?_
      rintro e w5 ⟨rfl, hb⟩
      have HD5 := Lib.hid (HD4.out.below hb)
      have HR5 := Lib.hid (HR4.out.below hb)
      clear hb
      have HR6 := Lib.hid (HD5.out.cb.range 0)
      have hth := HD5.out.rb.there 21 rfl
      have hone := all_oneCell_toArray (cdC_one C (.slice s2 C.nd.ls.length d2) (.slice s3 C.nd.ts.length d3) (.slice s4 C.td.ws.length d4) (.slice s5 C.td.bs.length d5) rfl rfl rfl rfl)
      have HE := Lib.hid (HD5.out.all (cdC C (.slice s2 C.nd.ls.length d2) (.slice s3 C.nd.ts.length d3) (.slice s4 C.td.ws.length d4) (.slice s5 C.td.bs.length d5)) rfl)
      have HRE : Hid (Rows (w5.setCells w.heap.size 0 (cdC C (.slice s2 C.nd.ls.length d2) (.slice s3 C.nd.ts.length d3) (.slice s4 C.td.ws.length d4) (.slice s5 C.td.bs.length d5))) w.heap.size C (.slice s2 C.nd.ls.length d2) (.slice s3 C.nd.ts.length d3) (.slice s4 C.td.ws.length d4) (.slice s5 C.td.bs.length d5)) := (HR5.out.off (only_setCells _ _ _ _) (by omega)).less (by omega)
      go_upto_region 5 with fail
      refine wp_region_list ?_
      refine wpList_load_mid rfl 33 (.tmp 5) rfl CB 0 rfl (cdC C (.slice s2 C.nd.ls.length d2) (.slice s3 C.nd.ts.length d3) (.slice s4 C.td.ws.length d4) (.slice s5 C.td.bs.length d5)) _ HR6.out Try.underlying33 rfl rfl ?_
      refine wpList_store_mid rfl 33 (.tmp 2) (.tmp 20) rfl w.heap.size 0 (cdC C (.slice s2 C.nd.ls.length d2) (.slice s3 C.nd.ts.length d3) (.slice s4 C.td.ws.length d4) (.slice s5 C.td.bs.length d5)).toArray rfl rfl hth rfl hone ?_
      clear hth hone
      rw [show (cdC C (.slice s2 C.nd.ls.length d2) (.slice s3 C.nd.ts.length d3) (.slice s4 C.td.ws.length d4) (.slice s5 C.td.bs.length d5)).toArray.toList = cdC C (.slice s2 C.nd.ls.length d2) (.slice s3 C.nd.ts.length d3) (.slice s4 C.td.ws.length d4) (.slice s5 C.td.bs.length d5) from rfl]
      generalize w5.setCells w.heap.size 0 (cdC C (.slice s2 C.nd.ls.length d2) (.slice s3 C.nd.ts.length d3) (.slice s4 C.td.ws.length d4) (.slice s5 C.td.bs.length d5)) = W6 at *
      go_wp2
      refine bodyPost_bx2 rfl w.heap.size (cdC C (.slice s2 C.nd.ls.length d2) (.slice s3 C.nd.ts.length d3) (.slice s4 C.td.ws.length d4) (.slice s5 C.td.bs.length d5)) _ rfl rfl ?_ Try.underlying33 rfl rfl ?_
      case refine_1 => exact HE.out.rb
      case refine_2 => exact ⟨HY.out _ _ _ _ _ HRE.out, HE.out.be⟩
end Hd
end Go.Proofs.Ythlchdlgafincaa
