/- Slices of strings. -/
import Derived.Test.YtfaiehjomcgjgaaOwn
namespace Go.Proofs.Ytfaiehjomcgjgaa
set_option linter.unusedVariables false
open Go.RowKit
def StrsOf (w : World) (a : Option Addr) (ss : List ByteArray) : Prop :=
  ∀ i, i < ss.length → ∃ b off, a = some ⟨b, off, none⟩ ∧ w.cell? ⟨b, off + i, none⟩ = some (.string (ss.getD i ByteArray.empty))
theorem StrsOf.gr {W w : World} {a : Option Addr} {ss : List ByteArray} (h : StrsOf W a ss) (hg : Gr W w) : StrsOf w a ss := by
  intro i hi
  obtain ⟨b, off, e, hc⟩ := h i hi
  exact ⟨b, off, e, hg.cell hc⟩
def strCells (ss : List ByteArray) : Array Value := (ss.map Value.string).toArray
theorem strCells_size (ss : List ByteArray) : (strCells ss).size = ss.length := by simp [strCells]
theorem strCells_get (ss : List ByteArray) (i : Nat) (h : i < ss.length) : (strCells ss)[i]? = some (.string (ss.getD i ByteArray.empty)) := by
  simp [strCells, List.getElem?_eq_getElem h, List.getD]
theorem strCells_set (ss : List ByteArray) (i : Nat) (x : ByteArray) : (strCells ss).setIfInBounds i (.string x) = strCells (ss.set i x) := by
  simp [strCells, List.map_set]
theorem cell_strs {w : World} {b i : Nat} {ss : List ByteArray} {t : TypeId} {fr : Nat × Nat} (h : w.heap[b]? = some (.cells (strCells ss) t fr)) (hi : i < ss.length) :
    w.cell? ⟨b, i, none⟩ = some (.string (ss.getD i ByteArray.empty)) := by rw [cell_of_row w b i _ t fr h, strCells_get ss i hi]
theorem strsOf_block {w : World} {b : Nat} {ss : List ByteArray} {t : TypeId} {fr : Nat × Nat} (h : w.heap[b]? = some (.cells (strCells ss) t fr)) : StrsOf w (some ⟨b, 0, none⟩) ss := by
  intro i hi
  exact ⟨b, 0, rfl, by rw [Nat.zero_add]; exact cell_strs h hi⟩
theorem heap_str_set {w : World} {b i : Nat} {ss : List ByteArray} {t : TypeId} {x : ByteArray} (h : w.heap[b]? = some (.cells (strCells ss) t (0, 0))) :
    (w.setCell ⟨b, i, none⟩ (.string x)).heap[b]? = some (.cells (strCells (ss.set i x)) t (0, 0)) := by rw [heap_setCell_same w b i _ t _ h, strCells_set]
theorem madeStrs (n : Nat) : madeCells (Value.string ⟨#[]⟩).cells (n * 1) = strCells (List.replicate n ⟨#[]⟩) := by
  unfold madeCells strCells
  apply Array.ext_getElem?
  intro i
  by_cases h : i < n
  · simp [Value.cells, h, Nat.mod_one]
  · simp [Value.cells, h]
theorem run_make_strs {P : Program} {t e : TypeId} {bytes : Nat} (ht : P.underlying t = some (.slice e)) (hi' : (P.info? e).map (fun i => (i.zero, i.size, i.bytes)) = some (some (.string ⟨#[]⟩), 1, bytes))
    (n : Nat) (hb : bytes * n ≤ 281474976710656) (hn : n ≤ 9223372036854775807) (w : World) :
    (Instr.makeSlice t (.int .i64 n) (.int .i64 n)).run P w = .ok (.slice (some ⟨w.heap.size, 0, none⟩) n n) (w.alloc (.cells (strCells (List.replicate n ⟨#[]⟩)) e)) := by
  obtain ⟨i0, hi, hh⟩ := Option.map_eq_some_iff.1 hi'
  simp only [Prod.mk.injEq] at hh
  obtain ⟨h1, h2, h3⟩ := hh
  have hb' : (i0.bytes : Int) * (n : Int) ≤ 281474976710656 := by
    have h : ((bytes * n : Nat) : Int) ≤ 281474976710656 := by omega
    rw [Int.natCast_mul] at h; rw [h3]; exact h
  have := run_make (P := P) w t e i0 (.string ⟨#[]⟩) ht hi h1 .i64 .i64 n n (by omega) (Int.le_refl _) hb' (by omega)
  rw [this, h2]
  simp only [Int.toNat_natCast]
  rw [madeStrs]
def fillS (n : Nat) (ss : List ByteArray) (k : Nat) : List ByteArray := ss.take k ++ List.replicate (n - k) ⟨#[]⟩
theorem fillS_length {n : Nat} {ss : List ByteArray} {k : Nat} (hn : n = ss.length) (h : k ≤ n) : (fillS n ss k).length = n := by simp [fillS]; omega
theorem fillS_set {n : Nat} {ss : List ByteArray} {k : Nat} (hn : n = ss.length) (h : k < n) : (fillS n ss k).set k (ss.getD k ByteArray.empty) = fillS n ss (k + 1) := by
  unfold fillS
  have hl : (ss.take k).length = k := by rw [List.length_take]; omega
  rw [List.set_append_right _ _ (by omega), hl, Nat.sub_self, show n - k = (n - (k + 1)) + 1 by omega, List.replicate_succ, List.set_cons_zero, List.take_succ_eq_append_getElem (show k < ss.length by omega), List.append_assoc]
  congr 1
  simp [List.getD, List.getElem?_eq_getElem (show k < ss.length by omega)]
theorem fillS_zero (n : Nat) (ss : List ByteArray) : fillS n ss 0 = List.replicate n ⟨#[]⟩ := by simp [fillS]
theorem fillS_all {n : Nat} {ss : List ByteArray} (hn : n = ss.length) : fillS n ss n = ss := by rw [hn]; simp [fillS]
/-- Two lists agree up to a place. -/
def sameS (xs ys : List ByteArray) (k : Nat) : Prop := ∀ i, i < k → xs.getD i ByteArray.empty = ys.getD i ByteArray.empty
theorem sameS_all {xs ys : List ByteArray} (hl : xs.length = ys.length) (h : sameS xs ys xs.length) : xs = ys := by
  apply List.ext_getElem hl
  intro i h1 h2
  have := h i h1
  simpa [List.getD, List.getElem?_eq_getElem h1, List.getElem?_eq_getElem h2] using this
theorem sameS_succ {xs ys : List ByteArray} {k : Nat} (h : sameS xs ys k) (e : xs.getD k ByteArray.empty = ys.getD k ByteArray.empty) : sameS xs ys (k + 1) := by
  intro i hi
  by_cases hk : i = k
  · subst hk; exact e
  · exact h i (by omega)
theorem toList_ne {v u : ByteArray} (h : v ≠ u) : (v.toList == u.toList) = false := by
  rw [beq_eq_false_iff_ne]
  intro e
  rw [Go.ByteArray.toList_eq, Go.ByteArray.toList_eq] at e
  exact h (Go.WideShapes.bytes_inj e)
end Go.Proofs.Ytfaiehjomcgjgaa
