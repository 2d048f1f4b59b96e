/- Cells: PaintCell, CellOf. -/
import Derived.Test.YtnghcchkiodalaaValid
import Derived.Test.YtnghcchkiodalaaToFlag
namespace Go.Proofs.Ytnghcchkiodalaa
open Go.RowKit
/-- A cell of the flag. -/
def cellB (x y : Int) : Bool := decide (0 ≤ x) && decide (x < 6) && decide (0 ≤ y) && decide (y < 4)
theorem cellB_true {x y : Int} (h : cellB x y = true) : (0 ≤ x ∧ x < 6) ∧ 0 ≤ y ∧ y < 4 := by simp [cellB] at h; omega

theorem l01Index_any (x y : Int) (hx : 0 ≤ x ∧ x < 6) (hy : 0 ≤ y ∧ y < 4) (w : World) :
    Calls Try.prog 76 #[.int .i64 x, .int .i64 y] w fun e w' => e = .returned (.int .i64 (x + 6 * y)) ∧ w = w' := by
  obtain ⟨hx0, hx1⟩ := hx
  obtain ⟨hy0, hy1⟩ := hy
  go_enter Try.func76, Try.ntmps76
  go_wp2
  go_ret
  exact ⟨rfl, rfl⟩
end Go.Proofs.Ytnghcchkiodalaa
