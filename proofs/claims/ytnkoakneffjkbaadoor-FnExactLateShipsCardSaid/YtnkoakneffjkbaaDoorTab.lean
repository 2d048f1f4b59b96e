/- A table of numbers in memory: a row of rows. -/
import Derived.Test.YtnkoakneffjkbaaDoorOwnV
import Derived.Test.YtnkoakneffjkbaaDoorStrX
namespace Go.Proofs.YtnkoakneffjkbaaDoor
set_option linter.unusedVariables false
open Go.RowKit
/-- The rows from i0 on are there; behind (i, j) they hold what they should. -/
structure Tab (w : World) (lo tb N M : Nat) (T : Nat → Nat → Int) (i0 i j : Nat) (rb : Nat → Nat) : Prop where
  outer : ∃ cs : List Value, w.heap[tb]? = some (.cells cs.toArray 44 (0, 0)) ∧ N ≤ cs.length ∧ ∀ r, i0 ≤ r → r < N → cs[r]? = some (.slice (some ⟨rb r, 0, none⟩) M M)
  rows : ∀ r, i0 ≤ r → r < N → ∃ xs : List Int, w.heap[rb r]? = some (.cells (xs.map (Value.int .i64)).toArray 2 (0, 0)) ∧ xs.length = M ∧ ∀ c, c < M → (i < r ∨ (r = i ∧ j ≤ c)) → xs.getD c 0 = T r c
  apart : ∀ r s, i0 ≤ r → r < s → s < N → rb r ≠ rb s
  low : ∀ r, i0 ≤ r → r < N → lo ≤ rb r
  lot : lo ≤ tb
theorem Tab.gr {W w : World} {lo tb N M : Nat} {T : Nat → Nat → Int} {i0 i j : Nat} {rb : Nat → Nat} (h : Tab W lo tb N M T i0 i j rb) (g : Gr W w) : Tab w lo tb N M T i0 i j rb := by
  refine ⟨?_, fun r h1 h2 => ?_, h.apart, h.low, h.lot⟩
  · obtain ⟨cs, a, b, c⟩ := h.outer
    exact ⟨cs, g.heap a, b, c⟩
  · obtain ⟨xs, a, b, c⟩ := h.rows r h1 h2
    exact ⟨xs, g.heap a, b, c⟩
/-- A row is no table. -/
theorem Tab.far {w : World} {lo tb N M : Nat} {T : Nat → Nat → Int} {i0 i j : Nat} {rb : Nat → Nat} (h : Tab w lo tb N M T i0 i j rb) {r : Nat} (h1 : i0 ≤ r) (h2 : r < N) : rb r ≠ tb := by
  intro e
  obtain ⟨cs, a, _, _⟩ := h.outer
  obtain ⟨xs, b, _, _⟩ := h.rows r h1 h2
  rw [e, a] at b
  have hne : (44 : TypeId) ≠ 2 := by decide
  simp only [Option.some.injEq, Obj.cells.injEq] at b
  exact hne b.2.1
theorem Tab.row {w : World} {lo tb N M : Nat} {T : Nat → Nat → Int} {i0 i j : Nat} {rb : Nat → Nat} (h : Tab w lo tb N M T i0 i j rb) {r : Nat} (h1 : i0 ≤ r) (h2 : r < N) : w.cell? ⟨tb, r, none⟩ = some (.slice (some ⟨rb r, 0, none⟩) M M) := by
  obtain ⟨cs, a, b, c⟩ := h.outer
  rw [cell_of_row _ _ _ _ _ _ a, List.getElem?_toArray]
  exact c r h1 h2
theorem Tab.cell {w : World} {lo tb N M : Nat} {T : Nat → Nat → Int} {i0 i j : Nat} {rb : Nat → Nat} (h : Tab w lo tb N M T i0 i j rb) {r c : Nat} (h1 : i0 ≤ r) (h2 : r < N) (hc : c < M) (h3 : i < r ∨ (r = i ∧ j ≤ c)) : w.cell? ⟨rb r, c, none⟩ = some (.int .i64 (T r c)) := by
  obtain ⟨xs, a, b, d⟩ := h.rows r h1 h2
  rw [cell_of_row _ _ _ _ _ _ a, List.getElem?_toArray, ← d c hc h3]
  simp [List.getD, show c < xs.length by omega]
/-- A cell that may be written. -/
theorem Tab.some_ {w : World} {lo tb N M : Nat} {T : Nat → Nat → Int} {i0 i j : Nat} {rb : Nat → Nat} (h : Tab w lo tb N M T i0 i j rb) {r c : Nat} (h1 : i0 ≤ r) (h2 : r < N) (hc : c < M) : (∃ x, w.cell? ⟨rb r, c, none⟩ = some (.int .i64 x)) ∧ w.frozen? ⟨rb r, c, none⟩ = false := by
  obtain ⟨xs, a, b, d⟩ := h.rows r h1 h2
  refine ⟨⟨xs.getD c 0, ?_⟩, frozen_of_row _ _ _ _ _ a⟩
  rw [cell_of_row _ _ _ _ _ _ a, List.getElem?_toArray]
  simp [List.getD, show c < xs.length by omega]
theorem Tab.outerSome {w : World} {lo tb N M : Nat} {T : Nat → Nat → Int} {i0 i j : Nat} {rb : Nat → Nat} (h : Tab w lo tb N M T i0 i j rb) {r : Nat} (h2 : r < N) : (∃ x, w.cell? ⟨tb, r, none⟩ = some x) ∧ w.frozen? ⟨tb, r, none⟩ = false := by
  obtain ⟨cs, a, b, c⟩ := h.outer
  refine ⟨⟨cs[r], ?_⟩, frozen_of_row _ _ _ _ _ a⟩
  rw [cell_of_row _ _ _ _ _ _ a, List.getElem?_toArray, List.getElem?_eq_getElem (by omega)]
theorem Tab.put {w : World} {lo tb N M : Nat} {T : Nat → Nat → Int} {i0 i j : Nat} {rb : Nat → Nat} (h : Tab w lo tb N M T i0 i (j + 1) rb) (h1 : i0 ≤ i) (h2 : i < N) (hj : j < M) {x : Int} (hx : x = T i j) : Tab (w.setCell ⟨rb i, j, none⟩ (.int .i64 x)) lo tb N M T i0 i j rb := by
  subst hx
  refine ⟨?_, fun r g1 g2 => ?_, h.apart, h.low, h.lot⟩
  · obtain ⟨cs, a, b, c⟩ := h.outer
    exact ⟨cs, heap_stored (fun e => h.far h1 h2 (by simp only at e; exact e.symm)) a, b, c⟩
  · obtain ⟨xs, a, b, d⟩ := h.rows r g1 g2
    by_cases e : r = i
    · subst e
      refine ⟨xs.set j (T r j), ?_, by rw [List.length_set]; exact b, fun c hc h3 => ?_⟩
      · rw [heap_setCell_same w _ _ _ _ _ a]
        simp [List.map_set]
      · by_cases ec : c = j
        · subst ec; simp [List.getD, show c < xs.length by omega]
        · have h4 := d c hc (by omega)
          rw [← h4]
          simp [List.getD, show ¬ j = c by omega]
    · refine ⟨xs, heap_stored ?_ a, b, fun c hc h3 => d c hc (by omega)⟩
      show rb r ≠ rb i
      rcases Nat.lt_or_gt_of_ne e with h5 | h5
      · exact h.apart r i g1 h5 h2
      · exact fun e2 => h.apart i r h1 h5 g2 e2.symm
/-- The row is full: on to the one ahead of it. -/
theorem Tab.next {w : World} {lo tb N M : Nat} {T : Nat → Nat → Int} {i0 i : Nat} {rb : Nat → Nat} (h : Tab w lo tb N M T i0 (i + 1) 0 rb) : Tab w lo tb N M T i0 i M rb := by
  refine ⟨h.outer, fun r h1 h2 => ?_, h.apart, h.low, h.lot⟩
  obtain ⟨xs, a, b, d⟩ := h.rows r h1 h2
  exact ⟨xs, a, b, fun c hc h3 => d c hc (by omega)⟩
theorem Tab.lt {w : World} {lo tb N M : Nat} {T : Nat → Nat → Int} {i0 i j : Nat} {rb : Nat → Nat} (h : Tab w lo tb N M T i0 i j rb) {r : Nat} (h1 : i0 ≤ r) (h2 : r < N) : rb r < w.heap.size := by
  obtain ⟨xs, a, _, _⟩ := h.rows r h1 h2
  exact lt_of_heap a
theorem Tab.tlt {w : World} {lo tb N M : Nat} {T : Nat → Nat → Int} {i0 i j : Nat} {rb : Nat → Nat} (h : Tab w lo tb N M T i0 i j rb) : tb < w.heap.size := by
  obtain ⟨cs, a, _, _⟩ := h.outer
  exact lt_of_heap a
/-- A new row is made and laid into the table. -/
theorem Tab.grow {w : World} {lo tb N M : Nat} {T : Nat → Nat → Int} {i : Nat} {rb : Nat → Nat} (h : Tab w lo tb N M T (i + 1) i M rb) (h2 : i < N) :
    Tab ((w.alloc (.cells ((List.replicate M 0).map (Value.int .i64)).toArray 2)).setCell ⟨tb, i, none⟩ (.slice (some ⟨w.heap.size, 0, none⟩) M M)) lo tb N M T i i M (fun r => if r = i then w.heap.size else rb r) := by
  have ht := h.tlt
  have hl := h.lot
  refine ⟨?_, fun r g1 g2 => ?_, fun r s g1 g2 g3 => ?_, fun r g1 g2 => ?_, h.lot⟩
  · obtain ⟨cs, a, b, c⟩ := h.outer
    refine ⟨cs.set i (.slice (some ⟨w.heap.size, 0, none⟩) M M), ?_, by rw [List.length_set]; exact b, fun r g1 g2 => ?_⟩
    · rw [heap_setCell_same _ _ _ _ _ _ (heap_kept a)]
      simp
    · by_cases e : r = i
      · subst e
        rw [if_pos rfl, List.getElem?_set_self (by omega)]
      · rw [if_neg e, List.getElem?_set_ne (fun h => e h.symm)]
        exact c r (by omega) g2
  · by_cases e : r = i
    · subst e
      refine ⟨List.replicate M 0, ?_, by simp, fun c hc h3 => by omega⟩
      rw [if_pos rfl]
      exact heap_stored (by show w.heap.size ≠ tb; omega) (heap_new rfl)
    · rw [if_neg e]
      obtain ⟨xs, a, b, d⟩ := h.rows r (by omega) g2
      exact ⟨xs, heap_stored (fun e2 => h.far (by omega) g2 e2) (heap_kept a), b, fun c hc h3 => d c hc (by omega)⟩
  · rw [if_neg (show ¬ s = i by omega)]
    have h4 := h.lt (r := s) (by omega) g3
    by_cases e : r = i
    · rw [if_pos e]; omega
    · rw [if_neg e]; exact h.apart r s (by omega) g2 g3
  · by_cases e : r = i
    · rw [if_pos e]; omega
    · rw [if_neg e]; exact h.low r (by omega) g2
/-- No row yet. -/
theorem Tab.empty {w : World} {lo tb N M : Nat} {T : Nat → Nat → Int} {i j : Nat} {rb : Nat → Nat} {cs : List Value} (h : w.heap[tb]? = some (.cells cs.toArray 44 (0, 0))) (hl : N ≤ cs.length) (hlo : lo ≤ tb) : Tab w lo tb N M T N i j rb :=
  ⟨⟨cs, h, hl, fun r h1 h2 => by omega⟩, fun r h1 h2 => by omega, fun r s h1 h2 h3 => by omega, fun r h1 h2 => by omega, hlo⟩
end Go.Proofs.YtnkoakneffjkbaaDoor
