/- The account with which a story has the least faults: the program's function. -/
import Derived.Test.YtnkoakneffjkbaaDoorAccts
import Derived.Test.YtnkoakneffjkbaaDoorTab
namespace Go.Proofs.YtnkoakneffjkbaaDoor
set_option linter.unusedVariables false
open Go.RowKit
theorem Tab.less {w : World} {lo tb N M : Nat} {T : Nat → Nat → Int} {i0 i1 i j i' j' : Nat} {rb : Nat → Nat} (h : Tab w lo tb N M T i0 i j rb) (h0 : i0 ≤ i1) (h1 : i < i' ∨ (i = i' ∧ j ≤ j')) : Tab w lo tb N M T i1 i' j' rb := by
  refine ⟨?_, fun r g1 g2 => ?_, fun r s g1 g2 g3 => h.apart r s (by omega) g2 g3, fun r g1 g2 => h.low r (by omega) g2, h.lot⟩
  · obtain ⟨cs, a, b, c⟩ := h.outer
    exact ⟨cs, a, b, fun r g1 g2 => c r (by omega) g2⟩
  · obtain ⟨xs, a, b, c⟩ := h.rows r (by omega) g2
    exact ⟨xs, a, b, fun q hq g => c q hq (by omega)⟩
theorem acct_next {es fs : List En} {i k : Nat} {a : Acct} (h : AccAt es fs i k a) : (i < a.ni i ∨ (a.ni i = i ∧ k + 1 ≤ a.nk k)) ∧ a.ni i ≤ es.length ∧ a.nk k ≤ fs.length ∨ (es.length < i ∨ fs.length < k) := by
  by_cases h0 : es.length < i ∨ fs.length < k
  · exact .inr h0
  · left
    rcases h with ⟨rfl, h1, h2, _⟩ | ⟨rfl, h1, h2, _⟩ | ⟨rfl, h1⟩ | ⟨rfl, h1⟩
    · rw [ni_right, nk_right]; omega
    · rw [ni_mis, nk_mis]; omega
    · rw [ni_drop, nk_drop]; omega
    · rw [ni_extra, nk_extra]; omega
theorem cost_range (a : Acct) : 0 ≤ a.cost ∧ a.cost ≤ 2 := by cases a <;> simp [Acct.cost]
end Go.Proofs.YtnkoakneffjkbaaDoor
