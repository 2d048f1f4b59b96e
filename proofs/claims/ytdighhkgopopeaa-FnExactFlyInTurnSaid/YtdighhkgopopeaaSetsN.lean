/- The greatest number of equal numbers: for whatever numbers of a hoist. -/
import Derived.Test.YtdighhkgopopeaaHoistG
namespace Go.Proofs.Ytdighhkgopopeaa
set_option linter.unusedVariables false
open Go.RowKit
/-- At most eight numbers of a hoist. -/
structure NumN (xs : List Int) : Prop where
  len : xs.length ≤ 8
  num : ∀ k, k < xs.length → xs.getD k 0 = -10 ∨ (-4 ≤ xs.getD k 0 ∧ xs.getD k 0 ≤ -1) ∨ (0 ≤ xs.getD k 0 ∧ xs.getD k 0 ≤ 39)
theorem sets_eqn {xs : List Int} (hv : NumN xs) : maxFrom (maxFrom 0 (flgC xs xs.length) 40) (subC xs xs.length) 4 = setsTo xs xs.length xs.length := by
  have hz : ∀ c : Int, ¬ c = -10 → occ xs c xs.length ≤ setsTo xs xs.length xs.length := by
    intro c hc
    by_cases hi : ∃ i, i < xs.length ∧ xs.getD i 0 = c
    · obtain ⟨i, hi, rfl⟩ := hi
      exact (setsTo_le.1 (Int.le_refl (setsTo xs xs.length xs.length))).2 i hi hc
    · rw [occ_zero (fun i hi' e => hi ⟨i, hi', e⟩)]
      exact (setsTo_bd xs xs.length xs.length).1
  apply Int.le_antisymm
  · refine maxFrom_le.2 ⟨maxFrom_le.2 ⟨(setsTo_bd xs xs.length xs.length).1, fun c _ => hz _ (by omega)⟩, fun c _ => hz _ (by omega)⟩
  · obtain ⟨h1, h2⟩ := (maxFrom_le (m := maxFrom 0 (flgC xs xs.length) 40) (f := subC xs xs.length) (k := 4)).1 (Int.le_refl _)
    obtain ⟨h3, h4⟩ := maxFrom_le.1 h1
    refine setsTo_le.2 ⟨h3, fun i hi hne => ?_⟩
    rcases hv.num i hi with h | h | h
    · exact absurd h hne
    · have := h2 ((-(xs.getD i 0)).toNat - 1) (by omega)
      unfold subC at this
      rw [show -(((-(xs.getD i 0)).toNat - 1 : Nat) : Int) - 1 = xs.getD i 0 by omega] at this
      exact this
    · have := h4 (xs.getD i 0).toNat (by omega)
      unfold flgC at this
      rw [show (((xs.getD i 0).toNat : Nat) : Int) = xs.getD i 0 by omega] at this
      exact this
end Go.Proofs.Ytdighhkgopopeaa
