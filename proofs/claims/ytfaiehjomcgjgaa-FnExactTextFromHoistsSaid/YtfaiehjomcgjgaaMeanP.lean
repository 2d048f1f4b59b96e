/- What a valid hoist means is a meaning. -/
import Derived.Test.YtfaiehjomcgjgaaHoistT
import Derived.Test.YtfaiehjomcgjgaaHoistU
import Derived.Test.YtfaiehjomcgjgaaSpelled
namespace Go.Proofs.Ytfaiehjomcgjgaa
set_option linter.unusedVariables false
open Go.RowKit
theorem meanL_brk {h : List Int} (hv : validH h = true) {j : Nat} (hj : j < h.length) : (meanL h).getD j 0 = -10 ↔ h.getD j 0 = -10 := by
  constructor
  · intro hm
    by_cases hb : h.getD j 0 = -10
    · exact hb
    · have := (meanTo_kind (validH_all hv) j hj hb).1
      unfold meanL at hm
      omega
  · intro hb; exact meanTo_brk hj hb
/-- What a valid hoist means is a meaning. -/
theorem mean_plain {h : List Int} (hv : validH h = true) : plainH (meanL h) = true := by
  have hlen := meanL_length h
  have hnum : ∀ i, i < h.length → (meanL h).getD i 0 = -10 ∨ (0 ≤ (meanL h).getD i 0 ∧ (meanL h).getD i 0 ≤ 39) := fun i hi => by
    by_cases hb : h.getD i 0 = -10
    · exact .inl ((meanL_brk hv hi).2 hb)
    · exact .inr (meanTo_kind (validH_all hv) i hi hb)
  unfold plainH
  rw [Bool.and_eq_true]
  refine ⟨validH_good ?_ (allTo_iff.2 fun i hi => ?_), allTo_iff.2 fun i hi => ?_⟩
  · exact lenB_iff.2 (by rw [hlen]; exact validH_len hv)
  · rw [hlen] at hi
    by_cases hb : h.getD i 0 = -10
    · have ho := validH_at hv hi
      unfold okAt at ho ⊢
      rw [if_pos (brkI_iff.2 hb)] at ho
      rw [if_pos (brkI_iff.2 ((meanL_brk hv hi).2 hb)), hlen, show startOf (meanL h) i = startOf h i from startOf_congr fun j hj => meanL_brk hv (by omega)]
      exact ho
    · have h1 := meanTo_kind (validH_all hv) i hi hb
      have h2 : 0 ≤ (meanL h).getD i 0 ∧ (meanL h).getD i 0 ≤ 39 := h1
      unfold okAt
      rw [if_neg (by simp only [brkI, decide_eq_true_eq]; omega), if_neg (by simp only [subI, Bool.and_eq_true, decide_eq_true_eq]; omega)]
      exact kindI_iff.2 h2
  · rw [hlen] at hi
    unfold ownAt
    have := hnum i hi
    simp only [subI, Bool.not_eq_true', Bool.and_eq_false_iff, decide_eq_false_iff_not]
    omega
end Go.Proofs.Ytfaiehjomcgjgaa
