/- Cells of structs, stored and read. (LineX has the same: take one of the two.) -/
import Derived.Test.YtnkoakneffjkbaaDoorOwnV
namespace Go.Proofs.YtnkoakneffjkbaaDoor
set_option linter.unusedVariables false
open Go.RowKit
theorem gr_setCells {W : World} {b : Nat} (hb : W.heap.size ≤ b) : ∀ (vs : List Value) (o : Nat) (w : World), Gr W w → Gr W (w.setCells b o vs)
  | [], _, _, h => h
  | v :: vs, o, _, h => gr_setCells hb vs (o + 1) _ (h.setCell (p := ⟨b, o, none⟩) hb v)
theorem grown_setCells {W : World} {b : Nat} : ∀ (vs : List Value) (o : Nat) (w : World), W.grownBy w (some b) → W.grownBy (w.setCells b o vs) (some b)
  | [], _, _, h => h
  | v :: vs, o, w, h => grown_setCells vs (o + 1) _ (h.trans ⟨rfl, rfl, rfl, by rw [World.size_setCell]; exact Nat.le_refl _, fun k _ hk => heap_setCell_other w ⟨b, o, none⟩ k v (fun e => hk (by rw [e]))⟩)
theorem set_splice (l : List Value) (o : Nat) (v : Value) (vs : List Value) (h : o < l.length) : (l.set o v).take (o + 1) ++ vs ++ (l.set o v).drop (o + 1 + vs.length) = l.take o ++ (v :: vs) ++ l.drop (o + (vs.length + 1)) := by
  rw [List.drop_set_of_lt (by omega), show o + 1 + vs.length = o + (vs.length + 1) by omega]
  rw [List.take_succ_eq_append_getElem (by simpa using h)]
  simp [List.take_set_of_le]
theorem heap_setCells_at (b : Nat) (t : TypeId) : ∀ (vs : List Value) (o : Nat) (w : World) (l : List Value), w.heap[b]? = some (.cells l.toArray t (0, 0)) → o + vs.length ≤ l.length → (w.setCells b o vs).heap[b]? = some (.cells (l.take o ++ vs ++ l.drop (o + vs.length)).toArray t (0, 0))
  | [], o, w, l, h, _ => by
    show w.heap[b]? = _
    rw [h]; simp
  | v :: vs, o, w, l, h, hl => by
    rw [List.length_cons] at hl
    have h1 : (w.setCell ⟨b, o, none⟩ v).heap[b]? = some (.cells (l.set o v).toArray t (0, 0)) := by
      rw [heap_setCell_same w b o _ t _ h]; simp
    have h2 := heap_setCells_at b t vs (o + 1) _ (l.set o v) h1 (by rw [List.length_set]; omega)
    rw [set_splice l o v vs (by omega)] at h2
    exact h2
theorem there_of_list {w : World} {b : Nat} {l : List Value} {t : TypeId} (h : w.heap[b]? = some (.cells l.toArray t (0, 0))) (o n : Nat) (hn : o + n ≤ l.length) : w.there b o n :=
  fun j hj => ⟨by
    rw [cell_of_row w b _ _ t _ h, Array.getElem?_eq_getElem (by rw [List.size_toArray]; omega)]
    rfl, frozen_of_row _ _ _ _ _ h⟩
/-- A list of which the first cells are there already. -/
def filC (cs zs : List Value) (j : Nat) : List Value := cs.take j ++ zs.drop j
theorem filC_zero (cs zs : List Value) : filC cs zs 0 = zs := by simp [filC]
theorem filC_all {cs zs : List Value} {j : Nat} (h : cs.length = j) (h2 : zs.length = j) : filC cs zs j = cs := by
  simp [filC, List.take_of_length_le (Nat.le_of_eq h), List.drop_of_length_le (Nat.le_of_eq h2)]
theorem filC_length {cs zs : List Value} {j : Nat} (h : cs.length = zs.length) (hj : j ≤ cs.length) : (filC cs zs j).length = cs.length := by simp [filC]; omega
theorem filC_step {cs zs us : List Value} {j n : Nat} (h : cs.length = zs.length) (hj : j + n ≤ cs.length) (hu : (cs.drop j).take n = us) (hn : us.length = n) : (filC cs zs j).take j ++ us ++ (filC cs zs j).drop (j + us.length) = filC cs zs (j + n) := by
  unfold filC
  have e1 : (cs.take j ++ zs.drop j).take j = cs.take j := by rw [List.take_append_of_le_length (by rw [List.length_take]; omega), List.take_take, Nat.min_self]
  have e2 : (cs.take j ++ zs.drop j).drop (j + us.length) = zs.drop (j + n) := by
    rw [hn, List.drop_append, List.drop_of_length_le (by simp; omega), List.nil_append, List.length_take, Nat.min_eq_left (by omega), List.drop_drop]
    congr 1; omega
  rw [e1, e2, ← hu, List.take_add]
theorem get_of_elem {cs us : List Value} {j n q : Nat} {v : Value} (h : (cs.drop j).take n = us) (hq : us[q]? = some v) : cs[j + q]? = some v := by
  rw [← h, List.getElem?_take] at hq
  split at hq
  · rwa [List.getElem?_drop] at hq
  · cases hq

end Go.Proofs.YtnkoakneffjkbaaDoor
