/- What is missing from a locker: the program's function. -/
import Derived.Test.YtlhijammadadmaaLockG
import Derived.Test.YtlhijammadadmaaLockH
import Derived.Test.YtlhijammadadmaaHeldS
namespace Go.Proofs.Ytlhijammadadmaa
set_option linter.unusedVariables false
open Go.RowKit
def missV (xs ys : List Int) : List Int := if lockB xs && lockB ys then cmbL shrt xs ys else zeros44
def missC (xs ys : List Int) : Int := if lockB xs && lockB ys then 0 else 1
theorem missV_length (xs ys : List Int) : (missV xs ys).length = 44 := by
  unfold missV
  split
  · exact cmbL_length _ _ _
  · rfl
theorem miss_yes {xs ys : List Int} (hx : lockB xs = true) (hy : lockB ys = true) : missV xs ys = cmbL shrt xs ys ∧ missC xs ys = 0 := by unfold missV missC; rw [hx, hy]; exact ⟨rfl, rfl⟩
theorem miss_no {xs ys : List Int} (h : (lockB xs && lockB ys) = false) : missV xs ys = zeros44 ∧ missC xs ys = 1 := by unfold missV missC; rw [h]; exact ⟨rfl, rfl⟩
theorem twoC_no {a b : Bool} (h : (a && b) = false) (s : Int) : twoC a b s = 1 := by unfold twoC; rw [h]; rfl
theorem twoC_yes {a b : Bool} (h : (a && b) = true) : twoC a b 0 = 0 := by unfold twoC; rw [h]; rfl
end Go.Proofs.Ytlhijammadadmaa
