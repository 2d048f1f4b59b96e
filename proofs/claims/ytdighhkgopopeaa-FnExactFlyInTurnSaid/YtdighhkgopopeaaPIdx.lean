/- The place of a number's piece. -/
import Derived.Test.YtdighhkgopopeaaLock
namespace Go.Proofs.Ytdighhkgopopeaa
set_option linter.unusedVariables false
open Go.RowKit
/-- The place of a number's piece. -/
def pIdx (v : Int) : Nat := if 0 ≤ v then v.toNat else (39 - v).toNat
theorem pIdx_lt {v : Int} (h : -4 ≤ v ∧ v ≤ 39) : pIdx v < 44 := by unfold pIdx; split <;> omega
theorem pNum_pIdx {v : Int} (h : -4 ≤ v ∧ v ≤ 39) : pNum (pIdx v) = v := by unfold pIdx pNum; split <;> split <;> omega
end Go.Proofs.Ytdighhkgopopeaa
