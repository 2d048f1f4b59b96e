/- Flights that are left out: plain lists. -/
import Derived.Test.YtlgfibiggiknjaaDoorDelM
import Derived.Test.YtlgfibiggiknjaaDoorLongM
import Derived.Test.YtlgfibiggiknjaaDoorUpAtF
import Derived.Test.YtlgfibiggiknjaaDoorStillMid
namespace Go.Proofs.YtlgfibiggiknjaaDoor
set_option linter.unusedVariables false
open Go.RowKit
theorem flCells_put : ∀ (ds : List (Int × Int)) (i : Nat) (x : Int × Int), i < ds.length → putsL (flCells ds) (i * 2) [.int .i64 x.1, .int .i64 x.2] = flCells (ds.set i x)
  | [], i, x, h => by simp at h
  | e :: r, 0, x, h => by simp [flCells, putsL]
  | e :: r, i + 1, x, h => by
    have key : ∀ (us pre cs : List Value) (o : Nat), putsL (pre ++ cs) (pre.length + o) us = pre ++ putsL cs o us := by
      intro us
      induction us with
      | nil => intro pre cs o; rfl
      | cons u us ih =>
        intro pre cs o
        show putsL ((pre ++ cs).set (pre.length + o) u) (pre.length + o + 1) us = pre ++ putsL (cs.set o u) (o + 1) us
        rw [List.set_append_right _ _ (by omega), Nat.add_sub_cancel_left, Nat.add_assoc, ih]
    have e1 : (i + 1) * 2 = [Value.int .i64 e.1, .int .i64 e.2].length + i * 2 := by simp; omega
    rw [e1]
    simp only [flCells, List.set_cons_succ]
    have hk := key [.int .i64 x.1, .int .i64 x.2] [Value.int .i64 e.1, .int .i64 e.2] (flCells r) (i * 2)
    rw [flCells_put r i x (by simpa using h)] at hk
    exact hk
theorem flCells_take : ∀ (ds : List (Int × Int)) (i : Nat), i ≤ ds.length → (flCells ds).take (i * 2) = flCells (ds.take i)
  | _, 0, _ => by simp [flCells]
  | [], i + 1, h => by simp at h
  | e :: r, i + 1, h => by
    have e1 : (i + 1) * 2 = [Value.int .i64 e.1, .int .i64 e.2].length + i * 2 := by simp; omega
    rw [e1]
    simp only [flCells, List.take_succ_cons]
    have hk := List.take_length_add_append (l₁ := [Value.int .i64 e.1, .int .i64 e.2]) (l₂ := flCells r) (i := i * 2)
    rw [flCells_take r i (by simpa using h)] at hk
    exact hk
def hauB (p : Int × Int) : Bool := p.2 != -1
theorem endF_eq (F : List (Int × Int)) : endF F = F.filter hauB := rfl
/-- How far the leaving out is: the first i are those of the first j that stay, and from j on nothing is touched. -/
structure DelF (es ds : List (Int × Int)) (j i : Nat) : Prop where
  len : ds.length = es.length
  lt : i < j
  le : j ≤ es.length
  pre : ds.take i = endF (es.take j)
  post : ds.drop j = es.drop j
theorem take_snocF {es : List (Int × Int)} {j : Nat} (h : j < es.length) : es.take (j + 1) = es.take j ++ [flAt es j] := by
  rw [List.take_add_one, List.getElem?_eq_getElem h]
  simp [flAt, List.getD, h]
theorem endF_none {es : List (Int × Int)} : ∀ k, k ≤ es.length → (∀ i, i < k → hauB (flAt es i) = true) → endF (es.take k) = es.take k
  | 0, _, _ => by simp [endF]
  | k + 1, hk, h => by
    have ih := endF_none (es := es) k (by omega) (fun i hi => h i (by omega))
    simp only [endF_eq] at ih ⊢
    rw [take_snocF (by omega), List.filter_append, ih]
    simp [h k (by omega)]
theorem DelF.start {es : List (Int × Int)} {k : Nat} (hk : k < es.length) (h : ∀ i, i < k → hauB (flAt es i) = true) (hn : hauB (flAt es k) = false) : DelF es es (k + 1) k := by
  refine ⟨rfl, by omega, hk, ?_, rfl⟩
  have ih := endF_none k (by omega) h
  simp only [endF_eq] at ih ⊢
  rw [take_snocF hk, List.filter_append, ih]
  simp [hn]
theorem DelF.skip {es ds : List (Int × Int)} {j i : Nat} (h : DelF es ds j i) (hj : j < es.length) (hn : hauB (flAt es j) = false) : DelF es ds (j + 1) i := by
  refine ⟨h.len, by have := h.lt; omega, hj, ?_, ?_⟩
  · have := h.pre
    simp only [endF_eq] at this ⊢
    rw [this, take_snocF hj, List.filter_append]
    simp [hn]
  · rw [← List.drop_drop, ← List.drop_drop, h.post]
theorem DelF.keep {es ds : List (Int × Int)} {j i : Nat} (h : DelF es ds j i) (hj : j < es.length) (hn : hauB (flAt es j) = true) : DelF es (ds.set i (flAt es j)) (j + 1) (i + 1) := by
  have hl := h.lt
  have hlen := h.len
  refine ⟨by rw [List.length_set]; exact h.len, by omega, hj, ?_, ?_⟩
  · have h1 := h.pre
    simp only [endF_eq] at h1 ⊢
    rw [List.take_add_one, List.getElem?_set_self (by omega), List.take_set_of_le (Nat.le_refl _), h1, take_snocF hj, List.filter_append]
    simp [hn]
  · rw [List.drop_set_of_lt (by omega), ← List.drop_drop, ← List.drop_drop, h.post]
theorem DelF.at_ {es ds : List (Int × Int)} {j i : Nat} (h : DelF es ds j i) : flAt ds j = flAt es j := by
  have e := congrArg (fun l => l[0]?) h.post
  simp only [List.getElem?_drop, Nat.add_zero] at e
  unfold flAt
  simp only [List.getD, e]
theorem DelF.done {es ds : List (Int × Int)} {i : Nat} (h : DelF es ds es.length i) : ds.take i = endF es := by
  have := h.pre
  rwa [List.take_length] at this
theorem DelF.done_len {es ds : List (Int × Int)} {i : Nat} (h : DelF es ds es.length i) : (endF es).length = i := by
  rw [← h.done, List.length_take]
  have := h.lt
  have := h.len
  omega
def zF : Value := .agg #[.int .i64 0, .int .i64 0]
theorem zF_len (n : Nat) : (Builtin.zeroCells zF.cells n).toList.length = n * 2 := by simp [Builtin.zeroCells, zF, Value.cells]
theorem zF_one (n : Nat) : ∀ v ∈ (Builtin.zeroCells zF.cells n).toList, v.oneCell' = true := by
  intro v hv
  simp only [Builtin.zeroCells, zF, Value.cells, Array.toList_map, List.mem_map] at hv
  obtain ⟨i, _, rfl⟩ := hv
  have h3 : i % 2 = 0 ∨ i % 2 = 1 := by omega
  show ((#[Value.int .i64 0, .int .i64 0] : Array Value)[i % 2]!).oneCell' = true
  rcases h3 with h | h <;> rw [h] <;> rfl
theorem sizeFl : (Tryd.prog.info? 89).map (·.size) = some 2 := by kernel_rfl
theorem fl_at {w : World} {a : Option Addr} {F : List (Int × Int)} {i : Nat} (h : CellsOf w a (flCells F)) (hi : i < F.length) :
    ∃ b off, a = some ⟨b, off, none⟩ ∧ w.cell? ⟨b, off + i * 2, none⟩ = some (.int .i64 (flAt F i).1) ∧ w.cell? ⟨b, off + i * 2 + 1, none⟩ = some (.int .i64 (flAt F i).2) := by
  obtain ⟨b, off, rfl, h0⟩ := h.at_ (flCells_get F i hi).1
  obtain ⟨b1, off1, e1, h1⟩ := h.at_ (flCells_get F i hi).2
  cases e1
  exact ⟨b, off, rfl, h0, h1⟩
theorem fl_at' {w : World} {b off : Nat} {F : List (Int × Int)} {i : Nat} (h : CellsOf w (some ⟨b, off, none⟩) (flCells F)) (hi : i < F.length) :
    w.cell? ⟨b, off + i * 2, none⟩ = some (.int .i64 (flAt F i).1) ∧ w.cell? ⟨b, off + i * 2 + 1, none⟩ = some (.int .i64 (flAt F i).2) := by
  obtain ⟨b', off', e, r⟩ := fl_at h hi
  cases e
  exact r
theorem range2 {w : World} {b o : Nat} {x0 x1 : Value} (h : w.cell? ⟨b, o, none⟩ = some x0 ∧ w.cell? ⟨b, o + 1, none⟩ = some x1) : w.rangeAt b o [x0, x1] := by
  intro j v hv
  have hj : j < 2 := (List.getElem?_eq_some_iff.1 hv).1
  rcases (by omega : j = 0 ∨ j = 1) with rfl | rfl
  · rw [← hv]; exact h.1
  · rw [← hv]; exact h.2
end Go.Proofs.YtlgfibiggiknjaaDoor
