/-
  WHAT lives COMES TO, as plain data.
-/
import Derived.Test.YthbmnkeigmbbdaaGreatBgZ
namespace Go.Proofs.YthbmnkeigmbbdaaGreat
open Go.RowKit Go.Lib
namespace Bo
open Rw
set_option linter.unusedVariables false
def lvN : Hd.Nd := ⟨⟨#[110]⟩, 5, 0, 0, [], []⟩
def lvA : Hd.Td := ⟨⟨#[97]⟩, 3, 0, 0, [], [], ⟨#[]⟩, ⟨#[]⟩, 0⟩
def lvB : Hd.Td := ⟨⟨#[98]⟩, 3, 0, 0, [], [], ⟨#[]⟩, ⟨#[]⟩, 0⟩
def lvO (nd : Hd.Nd) (td : Hd.Td) (k : Nat) (na on : ByteArray) (fe : Nat) : Hd.Cd := ⟨0, 0, k, nd, td, na, on, fe⟩
def oNode : Hd.Cd := lvO lvN Hd.td0 1 ⟨#[]⟩ ⟨#[]⟩ 0
def oA : Hd.Cd := lvO Hd.nd0 lvA 3 ⟨#[]⟩ ⟨#[]⟩ 0
def oB : Hd.Cd := lvO Hd.nd0 lvB 3 ⟨#[]⟩ ⟨#[]⟩ 0
def oBind : Hd.Cd := lvO Hd.nd0 Hd.td0 5 ⟨#[97]⟩ ⟨#[110]⟩ 0
def bk1 : Bk := ⟨[lvN], [], [], 0⟩
def bk2 : Bk := ⟨[lvN], [lvA], [], 0⟩
def bk3 : Bk := ⟨[lvN], [lvA, lvB], [], 0⟩
def bk4 : Bk := ⟨[lvN], [lvA, lvB], [⟨⟨#[97]⟩, ⟨#[110]⟩⟩], 0⟩
def bk5 : Bk := ⟨[lvN], [lvA, lvB], [⟨⟨#[97]⟩, ⟨#[110]⟩⟩], 3⟩
def Bq : Nat → Bk
  | 0 => bk0
  | 1 => bk1
  | 2 => bk2
  | 3 => bk3
  | _ => bk4
theorem lv0 : doF bk0 oNode = (bk1, 0, ByteArray.empty) := by kernel_rfl
theorem lv1 : doF bk1 oA = (bk2, 0, ByteArray.empty) := by kernel_rfl
theorem lv2 : doF bk2 oB = (bk3, 0, ByteArray.empty) := by kernel_rfl
theorem lv3 : doF bk3 oBind = (bk4, 0, ByteArray.empty) := by kernel_rfl
theorem lv4 : doF bk4 (lvO Hd.nd0 Hd.td0 5 ⟨#[98]⟩ ⟨#[110]⟩ 0) = (bk4, 13, ByteArray.empty) := by kernel_rfl
theorem lv5 : doF bk4 (lvO Hd.nd0 Hd.td0 7 ⟨#[97]⟩ ⟨#[]⟩ 0) = (bk4, 0, ⟨#[110]⟩) := by kernel_rfl
theorem lv6 : ldF bk4 3 = (bk5, 0) := by kernel_rfl
theorem lv7 : doF bk5 (lvO Hd.nd0 Hd.td0 5 ⟨#[98]⟩ ⟨#[110]⟩ 2) = (bk5, 14, ByteArray.empty) := by kernel_rfl
theorem deepN0 (w : World) (n : Hd.Nd) (h1 : n.ls = []) (h2 : n.ts = []) : DeepN w w.heap.size ⟨n, none, 0, none, 0⟩ := by
  obtain ⟨a, b, c, d, e, f⟩ := n
  obtain rfl : e = [] := h1
  obtain rfl : f = [] := h2
  exact ⟨Sl.nil _ _ _, Sl.nil _ _ _⟩
theorem deepT0 (w : World) (n : Hd.Td) (h1 : n.ws = []) (h2 : n.bs = []) : DeepT w w.heap.size ⟨n, none, 0, none, 0⟩ := by
  obtain ⟨a, b, c, d, e, f, g, h, i⟩ := n
  obtain rfl : e = [] := h1
  obtain rfl : f = [] := h2
  exact ⟨Sl.nil _ _ _, Sl.nil _ _ _⟩
theorem fitL0 : FitL [] := ⟨by simp, by simp⟩
theorem fitN0 : FitN Hd.nd0 := ⟨by unfold FitS; decide +kernel, by unfold Rg.In64; decide, fitL0, fitL0⟩
theorem fitT0 : FitT Hd.td0 := ⟨by unfold FitS; decide +kernel, by unfold Rg.In64; decide, fitL0, fitL0⟩
theorem fitN1 : FitN lvN := ⟨by unfold FitS; decide +kernel, by unfold Rg.In64; decide, fitL0, fitL0⟩
theorem fitTA : FitT lvA := ⟨by unfold FitS; decide +kernel, by unfold Rg.In64; decide, fitL0, fitL0⟩
theorem fitTB : FitT lvB := ⟨by unfold FitS; decide +kernel, by unfold Rg.In64; decide, fitL0, fitL0⟩
theorem rng_mid {w : World} {B : Nat} {cs : List Value} (h : Hd.Bxn w B cs) (o : Nat) (vs : List Value) (hv : (cs.drop o).take vs.length = vs) : w.rangeAt B o vs := fun j v hj => by
  rw [← hv, List.getElem?_take] at hj
  split at hj
  · exact h.range o j v hj
  · cases hj
end Bo
end Go.Proofs.YthbmnkeigmbbdaaGreat
