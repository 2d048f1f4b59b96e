/- Cells: PaintCell, CellOf. -/
import Derived.Test.YtflolmjgkmmllabValid
import Derived.Test.YtflolmjgkmmllabToFlag
namespace Go.Proofs.Ytflolmjgkmmllab
open Go.RowKit
/-- A cell of the flag. -/
def cellB (x y : Int) : Bool := decide (0 ≤ x) && decide (x < 6) && decide (0 ≤ y) && decide (y < 4)
theorem cellB_true {x y : Int} (h : cellB x y = true) : (0 ≤ x ∧ x < 6) ∧ 0 ≤ y ∧ y < 4 := by simp [cellB] at h; omega

theorem isCell_any (x y : Int) (w : World) :
    Calls Try.prog 50 #[.int .i64 x, .int .i64 y] w fun e w' => e = .returned (.bool (cellB x y)) ∧ w = w' := by
  cases h1 : decide (0 ≤ x) <;> cases h2 : decide (x < 6) <;> cases h3 : decide (0 ≤ y) <;> cases h4 : decide (y < 4) <;>
    (go_enter Try.func50, Try.ntmps50
     go_wp2
     go_ret
     exact ⟨ret_bool (by unfold cellB; rw [h1, h2, h3, h4]; rfl), rfl⟩)

theorem l01Cell_any (x y : Int) (w : World) :
    Calls Try.prog 47 #[.int .i64 x, .int .i64 y] w fun e w' => e = .returned (.bool (cellB x y)) ∧ w = w' := by
  cases h1 : (decide (0 ≤ x) && decide (x ≤ 5)) <;>
    (have h1' : (decide (0 ≤ x) && decide (x < 6)) = (decide (0 ≤ x) && decide (x ≤ 5)) := by congr 1; simp; omega
     have h2 : (decide (0 ≤ y) && decide (y < 4)) = (decide (0 ≤ y) && decide (y ≤ 3)) := by congr 1; simp; omega
     have hb : cellB x y = ((decide (0 ≤ x) && decide (x ≤ 5)) && (decide (0 ≤ y) && decide (y ≤ 3))) := by unfold cellB; rw [Bool.and_assoc (decide (0 ≤ x) && decide (x < 6)), h1', h2]
     rw [h1] at hb
     have HB := hid hb
     clear hb h1' h2
     go_enter Try.func47, Try.ntmps47
     go_wp2_with (go_at_call 72; refine (l00In_any _ _ _ _).mono ?_; rintro e w' ⟨rfl, rfl⟩)
     go_ret
     exact ⟨ret_bool HB.out.symm, rfl⟩)
theorem l01Index_any (x y : Int) (hx : 0 ≤ x ∧ x < 6) (hy : 0 ≤ y ∧ y < 4) (w : World) :
    Calls Try.prog 48 #[.int .i64 x, .int .i64 y] w fun e w' => e = .returned (.int .i64 (x + 6 * y)) ∧ w = w' := by
  obtain ⟨hx0, hx1⟩ := hx
  obtain ⟨hy0, hy1⟩ := hy
  go_enter Try.func48, Try.ntmps48
  go_wp2
  go_ret
  exact ⟨rfl, rfl⟩
end Go.Proofs.Ytflolmjgkmmllab
