/- Lists of hoists: sizes, copies, comparisons. -/
import Derived.Test.YtdighhkgopopeaaSlices
import Derived.Test.YtdighhkgopopeaaSlicesO
namespace Go.Proofs.Ytdighhkgopopeaa
set_option linter.unusedVariables false
open Go.RowKit
/-- The cells of slices, of which the first ones hold these numbers; none of them lies in a block. -/
def RowH (g : Nat) (w : World) (vs : List Value) (xss : List (List Int)) (k : Nat) : Prop :=
  ∀ i, i < k → ∃ a', vs[i]? = some (.slice a' (xss.getD i []).length (xss.getD i []).length) ∧ SliceOf .i8 w a' (xss.getD i []) ∧ ∀ b off s, a' = some ⟨b, off, s⟩ → b ≠ g
theorem RowH.gr {g : Nat} {W w : World} {vs : List Value} {xss : List (List Int)} {k : Nat} (h : RowH g W vs xss k) (hg : Gr W w) : RowH g w vs xss k := by
  intro i hi
  obtain ⟨a', e, hs, hne⟩ := h i hi
  exact ⟨a', e, hs.gr hg, hne⟩
theorem SliceOf.storeH {k : IntKind} {w : World} {a : Option Addr} {xs : List Int} (h : SliceOf k w a xs) {p : Addr} (hne : ∀ b off s, a = some ⟨b, off, s⟩ → b ≠ p.block) (v : Value) : SliceOf k (w.setCell p v) a xs := by
  intro i hi
  obtain ⟨b, off, e, hc⟩ := h i hi
  refine ⟨b, off, e, ?_⟩
  rw [← hc]
  exact World.cell?_of_block (heap_setCell_other w p b v (hne b off none e))
theorem RowH.step {g : Nat} {w : World} {vs : List Value} {xss : List (List Int)} {k : Nat} (h : RowH g w vs xss k) (hk : k < vs.length) {a' : Option Addr} (hs : SliceOf .i8 w a' (xss.getD k [])) (hne : ∀ b off s, a' = some ⟨b, off, s⟩ → b ≠ g) :
    RowH g (w.setCell ⟨g, k, none⟩ (.slice a' (xss.getD k []).length (xss.getD k []).length)) (vs.set k (.slice a' (xss.getD k []).length (xss.getD k []).length)) xss (k + 1) := by
  intro i hi
  by_cases e : i = k
  · subst e
    exact ⟨a', by simp [hk], hs.storeH (p := ⟨g, i, none⟩) hne _, hne⟩
  · obtain ⟨a2, e2, s2, n2⟩ := h i (by omega)
    exact ⟨a2, by rw [List.getElem?_set_ne (by omega)]; exact e2, s2.storeH (p := ⟨g, k, none⟩) n2 _, n2⟩
/-- A slice whose elements are slices without spare places that hold these numbers. -/
def SlicesX (w : World) (a : Option Addr) (xss : List (List Int)) : Prop :=
  ∀ i, i < xss.length → ∃ b off a', a = some ⟨b, off, none⟩ ∧ w.cell? ⟨b, off + i, none⟩ = some (.slice a' (xss.getD i []).length (xss.getD i []).length) ∧ SliceOf .i8 w a' (xss.getD i [])
theorem SlicesX.gr {W w : World} {a : Option Addr} {xss : List (List Int)} (h : SlicesX W a xss) (hg : Gr W w) : SlicesX w a xss := by
  intro i hi
  obtain ⟨b, off, a', e, hc, hs⟩ := h i hi
  exact ⟨b, off, a', e, hg.cell hc, hs.gr hg⟩
theorem SlicesX.of {w : World} {a : Option Addr} {xss : List (List Int)} (h : SlicesX w a xss) : SlicesOf .i8 w a xss := by
  intro i hi
  obtain ⟨b, off, a', e, hc, hs⟩ := h i hi
  exact ⟨b, off, a', _, e, hc, hs⟩
theorem RowH.reads {g : Nat} {w : World} {vs : List Value} {xss : List (List Int)} {t : TypeId} (h : RowH g w vs xss xss.length) (hb : w.heap[g]? = some (.cells vs.toArray t (0, 0))) : SlicesX w (some ⟨g, 0, none⟩) xss := by
  intro i hi
  obtain ⟨a', e, hs, _⟩ := h i hi
  refine ⟨g, 0, a', rfl, ?_, hs⟩
  rw [Nat.zero_add, cell_of_row w g i _ t _ hb]
  simpa using e
theorem heap_val_setH {w : World} {b i : Nat} {vs : List Value} {t : TypeId} {v : Value} (h : w.heap[b]? = some (.cells vs.toArray t (0, 0))) :
    (w.setCell ⟨b, i, none⟩ v).heap[b]? = some (.cells (vs.set i v).toArray t (0, 0)) := by
  rw [heap_setCell_same w b i _ t _ h]
  simp
theorem madeNilsH (n : Nat) : madeCells (Value.slice none 0 0).cells (n * 1) = (List.replicate n (Value.slice none 0 0)).toArray := by
  unfold madeCells
  apply Array.ext_getElem?
  intro i
  by_cases h : i < n
  · simp [Value.cells, h, Nat.mod_one]
  · simp [Value.cells, h]
theorem run_make_nilsH {P : Program} {t e : TypeId} {bytes : Nat} (ht : P.underlying t = some (.slice e)) (hi' : (P.info? e).map (fun i => (i.zero, i.size, i.bytes)) = some (some (.slice none 0 0), 1, bytes))
    (n : Nat) (hb : bytes * n ≤ 281474976710656) (hn : n ≤ 9223372036854775807) (w : World) :
    (Instr.makeSlice t (.int .i64 n) (.int .i64 n)).run P w = .ok (.slice (some ⟨w.heap.size, 0, none⟩) n n) (w.alloc (.cells (List.replicate n (Value.slice none 0 0)).toArray e)) := by
  obtain ⟨i0, hi, hh⟩ := Option.map_eq_some_iff.1 hi'
  simp only [Prod.mk.injEq] at hh
  obtain ⟨h1, h2, h3⟩ := hh
  have hb' : (i0.bytes : Int) * (n : Int) ≤ 281474976710656 := by
    have h : ((bytes * n : Nat) : Int) ≤ 281474976710656 := by omega
    rw [Int.natCast_mul] at h; rw [h3]; exact h
  have := run_make (P := P) w t e i0 (.slice none 0 0) ht hi h1 .i64 .i64 n n (by omega) (Int.le_refl _) hb' (by omega)
  rw [this, h2]
  simp only [Int.toNat_natCast]
  rw [madeNilsH]
end Go.Proofs.Ytdighhkgopopeaa
