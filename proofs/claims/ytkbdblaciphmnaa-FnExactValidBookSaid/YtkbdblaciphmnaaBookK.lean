/- Books in memory: their cells. -/
import Derived.Test.YtkbdblaciphmnaaRoom
namespace Go.Proofs.Ytkbdblaciphmnaa
set_option linter.unusedVariables false
open Go.RowKit
theorem bk_cells {w : World} {b : Nat} {k l s : Int} {v : Value} {t : TypeId} {fr : Nat × Nat} (h : w.heap[b]? = some (.cells (bookC k l s v) t fr)) :
    w.cell? ⟨b, 0, none⟩ = some (.int .i8 k) ∧ w.cell? ⟨b, 1, none⟩ = some (.int .i8 l) ∧ w.cell? ⟨b, 2, none⟩ = some (.int .i8 s) ∧ w.cell? ⟨b, 3, none⟩ = some v := by
  refine ⟨?_, ?_, ?_, ?_⟩ <;> rw [cell_of_row w b _ _ t fr h] <;> rfl
theorem bk_keep {A B C D E F G H I : Prop} (h : A ∧ B ∧ C ∧ D) (g : E ∧ F ∧ G ∧ H) (i : I) : A ∧ B ∧ C ∧ D ∧ E ∧ F ∧ G ∧ H ∧ I := ⟨h.1, h.2.1, h.2.2.1, h.2.2.2, g.1, g.2.1, g.2.2.1, g.2.2.2, i⟩
end Go.Proofs.Ytkbdblaciphmnaa
