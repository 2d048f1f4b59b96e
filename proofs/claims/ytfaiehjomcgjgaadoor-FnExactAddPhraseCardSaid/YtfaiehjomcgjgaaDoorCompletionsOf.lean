/- CompletionsOf: both functions. -/
import Derived.Test.YtfaiehjomcgjgaaDoorComps
namespace Go.Proofs.YtfaiehjomcgjgaaDoor
set_option linter.unusedVariables false
open Go.RowKit
attribute [local go_sem] Oper.semAt_some
def compL (k l s : Int) (ss : List ByteArray) (q : List Int) : List Int := if validBk k l s ss && plainH q then complTo (meansOf k l s) q ss.length else []
def compC (k l s : Int) (ss : List ByteArray) (q : List Int) : Int := if validBk k l s ss && plainH q then 0 else 1
theorem comp_no {k l s : Int} {ss : List ByteArray} {q : List Int} (h : (validBk k l s ss && plainH q) = false) : compL k l s ss q = [] ∧ compC k l s ss q = 1 := by unfold compL compC; rw [h]; exact ⟨rfl, rfl⟩
theorem comp_yes {k l s : Int} {ss : List ByteArray} {q : List Int} (h : (validBk k l s ss && plainH q) = true) : compL k l s ss q = complTo (meansOf k l s) q ss.length ∧ compC k l s ss q = 0 := by unfold compL compC; rw [h]; exact ⟨rfl, rfl⟩
theorem validBk_lens {k l s : Int} {ss : List ByteArray} (h : validBk k l s ss = true) : ss.length ≤ 100 ∧ ss.length ≤ (meansOf k l s).length := by
  unfold validBk at h
  simp only [Bool.and_eq_true, decide_eq_true_eq] at h
  exact ⟨h.2.1, h.2.2.2⟩
theorem compL_len (k l s : Int) (ss : List ByteArray) (q : List Int) : (compL k l s ss q).length ≤ 1048576 := by
  cases h : (validBk k l s ss && plainH q)
  · rw [(comp_no h).1]; simp
  · rw [(comp_yes h).1]
    rw [Bool.and_eq_true] at h
    have := complTo_len (meansOf k l s) q ss.length
    have := (validBk_lens h.1).1
    omega
end Go.Proofs.YtfaiehjomcgjgaaDoor
