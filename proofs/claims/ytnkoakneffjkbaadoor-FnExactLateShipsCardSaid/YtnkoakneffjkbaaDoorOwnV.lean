/- Slices of structs: of the call's own, and as arguments: their cells, one behind the other. -/
import Derived.Test.YtnkoakneffjkbaaDoorLineM
namespace Go.Proofs.YtnkoakneffjkbaaDoor
set_option linter.unusedVariables false
open Go.RowKit

/-- A slice reads as these cells. -/
def CellsOf (w : World) (a : Option Addr) (cs : List Value) : Prop := ∀ i, i < cs.length → ∃ b off, a = some ⟨b, off, none⟩ ∧ w.cell? ⟨b, off + i, none⟩ = cs[i]?
theorem CellsOf.gr {W w : World} {a : Option Addr} {cs : List Value} (h : CellsOf W a cs) (hg : Gr W w) : CellsOf w a cs := by
  intro i hi
  obtain ⟨b, off, e, hc⟩ := h i hi
  rw [List.getElem?_eq_getElem hi] at hc ⊢
  exact ⟨b, off, e, hg.cell hc⟩
theorem CellsOf.at_ {w : World} {a : Option Addr} {cs : List Value} (h : CellsOf w a cs) {i : Nat} {v : Value} (hv : cs[i]? = some v) : ∃ b off, a = some ⟨b, off, none⟩ ∧ w.cell? ⟨b, off + i, none⟩ = some v := by
  obtain ⟨b, off, e, hc⟩ := h i (List.getElem?_eq_some_iff.1 hv).1
  exact ⟨b, off, e, hc.trans hv⟩
theorem cellsOf_ints {k : IntKind} {w : World} {a : Option Addr} {xs : List Int} (h : SliceOf k w a xs) : CellsOf w a (xs.map (Value.int k)) := by
  intro i hi
  have hi' : i < xs.length := by simpa using hi
  obtain ⟨b, off, e, hc⟩ := h i hi'
  exact ⟨b, off, e, by rw [hc]; simp [List.getD, hi']⟩
theorem sliceOf_cells {k : IntKind} {w : World} {a : Option Addr} {xs : List Int} (h : CellsOf w a (xs.map (Value.int k))) : SliceOf k w a xs := by
  intro i hi
  obtain ⟨b, off, e, hc⟩ := h i (by simpa using hi)
  exact ⟨b, off, e, by rw [hc]; simp [List.getD, hi]⟩
/-- The cells of a stretch, all of one slice. -/
theorem CellsOf.range {w : World} {b off : Nat} {cs : List Value} (h : CellsOf w (some ⟨b, off, none⟩) cs) (i n : Nat) (_hin : i + n ≤ cs.length) : w.rangeAt b (off + i) ((cs.drop i).take n) := by
  intro j v hv
  have hj : j < n := by
    have := (List.getElem?_eq_some_iff.1 hv).1
    simp only [List.length_take, List.length_drop] at this
    omega
  rw [List.getElem?_take, if_pos hj, List.getElem?_drop] at hv
  obtain ⟨b', off', e, hc⟩ := h.at_ hv
  cases e
  rw [Nat.add_assoc]; exact hc

/-- A slice whose row lies in a block from lo on, below hi, and holds these cells. -/
structure OwnV (e : TypeId) (sz : Nat) (w : World) (lo hi : Nat) (v : Value) (n : Nat) (cs : List Value) : Prop where
  row : w.ownsRow lo e sz v n cs
  top : ∀ b, v.ownBlock = some b → b < hi
section
variable {e : TypeId} {sz : Nat} {W w w' : World} {lo hi m n cap : Nat} {v : Value} {a : Option Addr} {cs : List Value}
theorem OwnV.by_ {row : Option Nat} (h : OwnV e sz w lo hi v n cs) (hg : w.grownBy w' row) (hne : ∀ b, row = some b → b < lo ∨ hi ≤ b) : OwnV e sz w' lo hi v n cs := by
  refine ⟨h.row.kept hg ?_, h.top⟩
  cases hv : v.ownBlock with
  | none => exact .inl rfl
  | some b =>
    right
    intro hr
    have h1 := (h.row.lt b hv).1
    have h2 := h.top b hv
    have h3 := hne b hr.symm
    omega
theorem OwnV.gr (h : OwnV e sz W lo hi v n cs) (g : Gr W w) : OwnV e sz w lo hi v n cs := by
  refine ⟨⟨h.row.1, ?_⟩, h.top⟩
  rcases h.row.2 with h1 | ⟨g', cap, cur, h1, h2, h3, r⟩
  · exact .inl h1
  · exact .inr ⟨g', cap, cur, h1, h2, g.heap h3, r⟩
theorem OwnV.widen {lo' hi' : Nat} (h : OwnV e sz w lo hi v n cs) (hl : lo' ≤ lo) (hh : hi ≤ hi') : OwnV e sz w lo' hi' v n cs := by
  refine ⟨⟨h.row.1, ?_⟩, fun b hb => Nat.lt_of_lt_of_le (h.top b hb) hh⟩
  rcases h.row.2 with h1 | ⟨g', cap, cur, h1, h2, r⟩
  · exact .inl h1
  · exact .inr ⟨g', cap, cur, h1, Nat.le_trans hl h2, r⟩
theorem OwnV.shape (h : OwnV e sz w lo hi v n cs) : ∃ a cap, v = .slice a n cap := by
  rcases h.row.2 with ⟨h1, h2⟩ | ⟨g', cap, cur, h1, _⟩
  · exact ⟨none, 0, by rw [h1, h2]⟩
  · exact ⟨_, _, h1⟩
theorem OwnV.len (h : OwnV e sz w lo hi (.slice a m cap) n cs) : m = n := by
  obtain ⟨a', c', h1⟩ := h.shape
  simp only [Value.slice.injEq] at h1
  exact h1.2.1
theorem OwnV.at_ (h : OwnV e sz w lo hi (.slice a m cap) n cs) {i : Nat} {u : Value} (hu : cs[i]? = some u) :
    ∃ g, a = some ⟨g, 0, none⟩ ∧ (lo ≤ g ∧ g < hi) ∧ w.cell? ⟨g, i, none⟩ = some u ∧ w.frozen? ⟨g, i, none⟩ = false := by
  have hl := h.len
  subst hl
  have hi' : i < cs.length := (List.getElem?_eq_some_iff.1 hu).1
  rcases h.row.2 with ⟨h1, h2⟩ | ⟨g', cap', cur, h1, h2, _⟩
  · rw [h.row.1, h2] at hi'; omega
  · simp only [Value.slice.injEq] at h1
    obtain ⟨rfl, _, rfl⟩ := h1
    refine ⟨g', rfl, ⟨h2, h.top g' rfl⟩, ?_, h.row.frozenAt i⟩
    rw [h.row.cellAt i (by rw [← h.row.1]; exact hi'), hu]
theorem OwnV.reads (h : OwnV e sz w lo hi (.slice a m cap) n cs) : CellsOf w a cs := by
  intro i hi'
  obtain ⟨g, rfl, _, hc, _⟩ := h.at_ (List.getElem?_eq_getElem hi')
  exact ⟨g, 0, rfl, by rw [Nat.zero_add, hc, List.getElem?_eq_getElem hi']⟩
theorem OwnV.put {g : Nat} (h : OwnV e sz w lo hi (.slice (some ⟨g, 0, none⟩) m cap) n cs) (i : Nat) (x : Value) :
    OwnV e sz (w.setCell ⟨g, i, none⟩ x) lo hi (.slice (some ⟨g, 0, none⟩) m cap) n (cs.set i x) ∧ w.grownBy (w.setCell ⟨g, i, none⟩ x) (some g) := by
  have hl := h.len
  subst hl
  have h1 := h.row.stored i x
  exact ⟨⟨h1.1, h.top⟩, h1.2⟩
theorem OwnV.nil (w : World) (lo hi : Nat) : OwnV e sz w lo hi (.slice none 0 0) 0 [] := ⟨World.ownsRow_nil w lo e sz, fun b hb => by simp [Value.ownBlock] at hb⟩
theorem OwnV.ofRow (h : w.ownsRow lo e sz v n cs) : OwnV e sz w lo w.heap.size v n cs := ⟨h, fun b hb => (h.lt b hb).2⟩
theorem OwnV.ofBlock {b : Nat} {us : Array Value} (hb : w.heap[b]? = some (.cells us e (0, 0))) (hs : us.size = n * sz) (hm : n ≤ maxLen) : OwnV e sz w b (b + 1) (.slice (some ⟨b, 0, none⟩) n n) n us.toList := by
  refine ⟨⟨by simpa using hs, .inr ⟨b, n, us, rfl, Nat.le_refl _, hb, Nat.le_refl _, hm, hs, List.take_of_length_le (by rw [Array.length_toList, hs]; exact Nat.le_refl _)⟩⟩, fun b' hb' => ?_⟩
  simp only [Value.ownBlock, Option.some.injEq] at hb'; omega
theorem ownV_ints {k : IntKind} {xs : List Int} (h : OwnV e 1 w lo hi v xs.length (xs.map (Value.int k))) : Own k e w lo hi v xs := ⟨h.row, h.top⟩
theorem ownV_of_ints {k : IntKind} {xs : List Int} (h : Own k e w lo hi v xs) : OwnV e 1 w lo hi v xs.length (xs.map (Value.int k)) := ⟨h.row, h.top⟩
end
/-- Marks: numbers that rise from 1 on, in the kinds of the cells. -/
def markV (kd : Nat → IntKind) (i : Nat) : Value := .int (kd i) ((kd i).wrap ((1 + i : Nat) : Int))
def markC (kd : Nat → IntKind) (n : Nat) : List Value := (List.range n).map (markV kd)
theorem markC_length (kd : Nat → IntKind) (n : Nat) : (markC kd n).length = n := by simp [markC]
theorem markC_get {kd : Nat → IntKind} {n i : Nat} (h : i < n) : (markC kd n)[i]? = some (markV kd i) := by simp [markC, h]
def markCTo (kd : Nat → IntKind) (cs : List Value) (j : Nat) : List Value := markC kd j ++ cs.drop j
theorem markCTo_zero (kd : Nat → IntKind) (cs : List Value) : markCTo kd cs 0 = cs := by simp [markCTo, markC]
theorem markCTo_all (kd : Nat → IntKind) {cs : List Value} {n : Nat} (h : n = cs.length) : markCTo kd cs n = markC kd n := by simp [markCTo, h]
theorem markCTo_length {kd : Nat → IntKind} {cs : List Value} {j : Nat} (h : j ≤ cs.length) : (markCTo kd cs j).length = cs.length := by simp [markCTo, markC_length]; omega
theorem markCTo_set {kd : Nat → IntKind} {cs : List Value} {j : Nat} (h : j < cs.length) : (markCTo kd cs j).set j (markV kd j) = markCTo kd cs (j + 1) := by
  unfold markCTo
  rw [List.set_append_right _ _ (by rw [markC_length]; exact Nat.le_refl _), markC_length, Nat.sub_self, List.drop_eq_getElem_cons h, List.set_cons_zero]
  simp [markC, List.range_succ]
theorem markCTo_get {kd : Nat → IntKind} {cs : List Value} {i j : Nat} (hj : j ≤ i) (_hi : i < cs.length) : (markCTo kd cs j)[i]? = cs[i]? := by
  unfold markCTo
  rw [List.getElem?_append_right (by rw [markC_length]; exact hj), markC_length, List.getElem?_drop, show j + (i - j) = i by omega]
def tmKind (i : Nat) : IntKind := if i % 4 = 0 then .i8 else .i64
def shKind (_ : Nat) : IntKind := .i8
/-- A slice of structs is handed back, with a code or without. -/
def RetV (e : TypeId) (sz : Nat) (mk : Value → Value) (n : Nat) (cs : List Value) (w : World) (r : Ending) (w' : World) : Prop :=
  ∃ v, r = .returned (mk v) ∧ OwnV e sz w' w.heap.size w'.heap.size v n cs ∧ Gr w w'
end Go.Proofs.YtnkoakneffjkbaaDoor
