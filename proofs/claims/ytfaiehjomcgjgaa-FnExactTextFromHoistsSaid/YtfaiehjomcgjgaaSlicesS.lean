/- Slices of slices of integers: what reads them. -/
import Derived.Test.YtfaiehjomcgjgaaSlices
namespace Go.Proofs.Ytfaiehjomcgjgaa
set_option linter.unusedVariables false
open Go.RowKit
/-- A slice whose elements are slices that hold these numbers. -/
def SlicesOf (k : IntKind) (w : World) (a : Option Addr) (xss : List (List Int)) : Prop :=
  ∀ i, i < xss.length → ∃ b off a' cap', a = some ⟨b, off, none⟩ ∧ w.cell? ⟨b, off + i, none⟩ = some (.slice a' (xss.getD i []).length cap') ∧ SliceOf k w a' (xss.getD i [])
theorem SlicesOf.gr {k : IntKind} {W w : World} {a : Option Addr} {xss : List (List Int)} (h : SlicesOf k W a xss) (hg : Gr W w) : SlicesOf k w a xss := by
  intro i hi
  obtain ⟨b, off, a', cap', e, hc, hs⟩ := h i hi
  exact ⟨b, off, a', cap', e, hg.cell hc, hs.gr hg⟩
/-- How many there are in the first i. -/
def sumTo (ls : List Nat) (i : Nat) : Nat := (ls.take i).sum
theorem sumTo_succ {ls : List Nat} {i : Nat} (h : i < ls.length) : sumTo ls (i + 1) = sumTo ls i + ls.getD i 0 := by
  unfold sumTo
  rw [List.take_succ_eq_append_getElem h, List.sum_append]
  simp [List.getD, List.getElem?_eq_getElem h]
theorem sumTo_all (ls : List Nat) : sumTo ls ls.length = ls.sum := by unfold sumTo; rw [List.take_length]
theorem sumTo_le (ls : List Nat) (i : Nat) : sumTo ls i ≤ ls.sum := by
  have h : (ls.take i).sum + (ls.drop i).sum = ls.sum := by rw [← List.sum_append, List.take_append_drop]
  unfold sumTo
  omega
theorem sumTo_get {ls : List Nat} {i : Nat} (h : i < ls.length) : sumTo ls i + ls.getD i 0 ≤ ls.sum := by rw [← sumTo_succ h]; exact sumTo_le ls _
/-- Marks that rise through all the slices. -/
def markS (k0 : Nat) (ls : List Nat) : List (List Int) := (List.range ls.length).map fun i => markL .i8 (k0 + sumTo ls i) (ls.getD i 0)
theorem markS_length (k0 : Nat) (ls : List Nat) : (markS k0 ls).length = ls.length := by simp [markS]
theorem markS_get {k0 : Nat} {ls : List Nat} {i : Nat} (h : i < ls.length) : (markS k0 ls).getD i [] = markL .i8 (k0 + sumTo ls i) (ls.getD i 0) := by
  simp only [markS, List.getD_eq_getElem?_getD, List.getElem?_map, List.getElem?_range h]
  rfl
end Go.Proofs.Ytfaiehjomcgjgaa
