/- Lines of ships: what the laws' walks ask of arguments. -/
import Derived.Test.YtflbjjcpkhldkaaDoorLineY
import Derived.Test.YtflbjjcpkhldkaaDoorLineV
namespace Go.Proofs.YtflbjjcpkhldkaaDoor
open Go.RowKit
/-- Times whose numbers fit. -/
def TmFits (ts : List Tm) : Prop := ∀ t ∈ ts, (Lit.int .i8 t.f).wf = true ∧ (Lit.int .i64 t.s).wf = true ∧ (Lit.int .i64 t.c).wf = true ∧ (Lit.int .i64 t.l).wf = true
theorem cellsOf_list {w : World} {b : Nat} {l : List Value} {t : TypeId} {fr : Nat × Nat} (h : w.heap[b]? = some (.cells l.toArray t fr)) : CellsOf w (some ⟨b, 0, none⟩) l := by
  intro i _
  exact ⟨b, 0, rfl, by rw [Nat.zero_add, cell_of_row w b i _ t fr h, List.getElem?_toArray]⟩
theorem ships_sC {n : Nat} {xs : List Int} (hl : xs.length = n * 3) : ShipsC n (xs.map (Value.int .i8)) := by
  refine ⟨by rw [List.length_map, hl], fun k hk => ⟨xs.getD (k * 3) 0, xs.getD (k * 3 + 1) 0, xs.getD (k * 3 + 2) 0, ?_⟩⟩
  apply List.ext_getElem?
  intro q
  rw [List.getElem?_take]
  split
  · rename_i hq
    rw [List.getElem?_drop, List.getElem?_map, List.getElem?_eq_getElem (by omega : k * 3 + q < xs.length)]
    rcases (by omega : q = 0 ∨ q = 1 ∨ q = 2) with rfl | rfl | rfl <;> simp [List.getD, List.getElem?_eq_getElem (by omega : k * 3 < xs.length), List.getElem?_eq_getElem (by omega : k * 3 + 1 < xs.length), List.getElem?_eq_getElem (by omega : k * 3 + 2 < xs.length)]
  · rename_i hq
    rw [List.getElem?_eq_none]
    show 3 ≤ q
    omega
end Go.Proofs.YtflbjjcpkhldkaaDoor
