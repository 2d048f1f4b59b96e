/- Entries of logs: as data, and their cells. -/
import Derived.Test.YtnkoakneffjkbaaDoorEntX
import Derived.Test.YtnkoakneffjkbaaDoorLineV
namespace Go.Proofs.YtnkoakneffjkbaaDoor
set_option linter.unusedVariables false
open Go.RowKit
/-- An entry. -/
structure En where
  t : Int
  s : Int
  d : Bool
def noE : En := ⟨0, 0, false⟩
def En.cells (e : En) : List Value := [.int .i64 e.t, .int .i64 e.s, .bool e.d]
def enAt (es : List En) (i : Nat) : En := es.getD i noE
def enCells : List En → List Value
  | [] => []
  | t :: ts => t.cells ++ enCells ts
theorem enCells_length (ts : List En) : (enCells ts).length = ts.length * 3 := by
  induction ts with
  | nil => rfl
  | cons t ts ih => simp only [enCells, List.length_append, List.length_cons, ih, En.cells, List.length_nil]; omega
theorem enCells_append (ts us : List En) : enCells (ts ++ us) = enCells ts ++ enCells us := by
  induction ts with
  | nil => rfl
  | cons t ts ih => simp only [List.cons_append, enCells, ih, List.append_assoc]
theorem enCells_get (ts : List En) : ∀ (i q : Nat), i < ts.length → q < 3 → (enCells ts)[i * 3 + q]? = (enAt ts i).cells[q]? := by
  induction ts with
  | nil => intro i q h; simp at h
  | cons t ts ih =>
    intro i q h hq
    cases i with
    | zero => simp only [enCells, enAt, List.getD]; rw [Nat.zero_mul, Nat.zero_add, List.getElem?_append_left (by simp [En.cells]; omega)]; rfl
    | succ i =>
      simp only [enCells]
      rw [List.getElem?_append_right (by simp [En.cells]; omega)]
      have e : (i + 1) * 3 + q - t.cells.length = i * 3 + q := by simp [En.cells]; omega
      rw [e, ih i q (by simpa using h) hq]
      simp [enAt, List.getD]
theorem enAt_append_left {ts us : List En} {i : Nat} (h : i < ts.length) : enAt (ts ++ us) i = enAt ts i := by
  simp [enAt, List.getD, List.getElem?_append_left h]
theorem enAt_append_last (ts : List En) (t : En) : enAt (ts ++ [t]) ts.length = t := by
  simp [enAt, List.getD]
theorem enCells_elem (ts : List En) : ∀ i, i < ts.length → ((enCells ts).drop (i * 3)).take 3 = (enAt ts i).cells := by
  intro i hi
  apply List.ext_getElem?
  intro q
  rw [List.getElem?_take]
  split
  · rename_i hq
    rw [List.getElem?_drop, enCells_get ts i q hi hq]
  · rename_i hq
    rw [List.getElem?_eq_none]
    show 3 ≤ q
    omega
theorem enCells_sC (ts : List En) : EntrysC ts.length (enCells ts) :=
  ⟨enCells_length ts, fun k hk => ⟨_, _, _, enCells_elem ts k hk⟩⟩
def EnFits (es : List En) : Prop := ∀ e ∈ es, (Lit.int .i64 e.t).wf = true ∧ (Lit.int .i64 e.s).wf = true
theorem cellsOf_list {w : World} {b : Nat} {l : List Value} {t : TypeId} {fr : Nat × Nat} (h : w.heap[b]? = some (.cells l.toArray t fr)) : CellsOf w (some ⟨b, 0, none⟩) l := by
  intro i _
  exact ⟨b, 0, rfl, by rw [Nat.zero_add, cell_of_row w b i _ t fr h, List.getElem?_toArray]⟩
theorem en_at {w : World} {a : Option Addr} {ts : List En} {i : Nat} (h : CellsOf w a (enCells ts)) (hi : i < ts.length) :
    ∃ b off, a = some ⟨b, off, none⟩ ∧ w.cell? ⟨b, off + i * 3, none⟩ = some (.int .i64 (enAt ts i).t) ∧ w.cell? ⟨b, off + i * 3 + 1, none⟩ = some (.int .i64 (enAt ts i).s) ∧ w.cell? ⟨b, off + i * 3 + 2, none⟩ = some (.bool (enAt ts i).d) :=
  elemEntry_cells h (enCells_elem ts i hi)
theorem en_at' {w : World} {b off : Nat} {ts : List En} {i : Nat} (h : CellsOf w (some ⟨b, off, none⟩) (enCells ts)) (hi : i < ts.length) :
    w.cell? ⟨b, off + i * 3, none⟩ = some (.int .i64 (enAt ts i).t) ∧ w.cell? ⟨b, off + i * 3 + 1, none⟩ = some (.int .i64 (enAt ts i).s) ∧ w.cell? ⟨b, off + i * 3 + 2, none⟩ = some (.bool (enAt ts i).d) :=
  elemEntry_at (en_at h hi)
theorem range3 {w : World} {b o : Nat} {x0 x1 x2 : Value} (h : w.cell? ⟨b, o, none⟩ = some x0 ∧ w.cell? ⟨b, o + 1, none⟩ = some x1 ∧ w.cell? ⟨b, o + 2, none⟩ = some x2) : w.rangeAt b o [x0, x1, x2] := by
  intro j v hv
  have hj : j < 3 := (List.getElem?_eq_some_iff.1 hv).1
  rcases (by omega : j = 0 ∨ j = 1 ∨ j = 2) with rfl | rfl | rfl
  · rw [← hv]; exact h.1
  · rw [← hv]; exact h.2.1
  · rw [← hv]; exact h.2.2
end Go.Proofs.YtnkoakneffjkbaaDoor
