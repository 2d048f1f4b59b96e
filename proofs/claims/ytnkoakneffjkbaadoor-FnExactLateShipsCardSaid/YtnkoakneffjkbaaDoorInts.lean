/- Slices and arrays of integers. -/
import Derived.Test.YtnkoakneffjkbaaDoorKit
import Derived.Laws.MakeOwn
namespace Go.Proofs.YtnkoakneffjkbaaDoor
set_option linter.unusedVariables false
open Go.RowKit

/-- The cells of integers of one kind. -/
def kCells (k : IntKind) (xs : List Int) : Array Value := (xs.map (Value.int k)).toArray
theorem kCells_size (k : IntKind) (xs : List Int) : (kCells k xs).size = xs.length := by simp [kCells]
theorem kCells_get (k : IntKind) (xs : List Int) (i : Nat) (h : i < xs.length) : (kCells k xs)[i]? = some (.int k (xs.getD i 0)) := by
  simp [kCells, List.getElem?_eq_getElem h, List.getD]
theorem kCells_set (k : IntKind) (xs : List Int) (i : Nat) (x : Int) : (kCells k xs).setIfInBounds i (.int k x) = kCells k (xs.set i x) := by
  simp [kCells, List.map_set]
theorem kCells_one (k : IntKind) (xs : List Int) : (kCells k xs).all (·.oneCell') = true := by simp [kCells, Value.oneCell']
theorem heap_int_set {k : IntKind} {w : World} {b i : Nat} {xs : List Int} {t : TypeId} {x : Int} (h : w.heap[b]? = some (.cells (kCells k xs) t (0, 0))) :
    (w.setCell ⟨b, i, none⟩ (.int k x)).heap[b]? = some (.cells (kCells k (xs.set i x)) t (0, 0)) := by
  rw [heap_setCell_same w b i _ t _ h, kCells_set]
theorem cell_ints {k : IntKind} {w : World} {b i : Nat} {xs : List Int} {t : TypeId} {fr : Nat × Nat} (h : w.heap[b]? = some (.cells (kCells k xs) t fr)) (hi : i < xs.length) :
    w.cell? ⟨b, i, none⟩ = some (.int k (xs.getD i 0)) := by
  rw [cell_of_row w b i _ t fr h, kCells_get k xs i hi]

/-- A row of cells is loaded, stored, handed back. -/
theorem wpList_load_cells {P : Program} {ops : Array Oper} {rest : List Oper} {o : Oper} {a : Act} {w : World} {Q : Exit → Act → World → Prop} (hw : Region.wanted o (yielded ops a.tmps) = true) (ty : TypeId) (x : Operand) (ho : o.op = .load ty x)
    (g : Nat) (hx : a.eval x = .pointer (some ⟨g, 0, none⟩)) (t : TypeId) (cs : Array Value) (e : TypeId) (n : Nat) (hg : w.heap[g]? = some (.cells cs t (0, 0)))
    (hu : P.underlying ty = some (.array n e)) (hi : (P.info? ty).map (·.size) = some n) (hl : cs.size = n)
    (h : wpList P ops Q rest (a.put o.dst (.agg cs)) w) : wpList P ops Q (o :: rest) a w :=
  BigFrame.wpList_want hw fun _ hK => wp_load_row ty x ho g hx t _ _ _ hg hu rfl (by rw [hl]; exact hi) (hK _ _ h)
theorem wpList_store_cells {P : Program} {ops : Array Oper} {rest : List Oper} {o : Oper} {a : Act} {w : World} {Q : Exit → Act → World → Prop} (hw : Region.wanted o (yielded ops a.tmps) = true) (ty : TypeId) (x y : Operand) (ho : o.op = .store ty x y)
    (g : Nat) (cs old : Array Value) (hx : a.eval x = .pointer (some ⟨g, 0, none⟩)) (hy : a.eval y = .agg cs)
    (t : TypeId) (n : Nat) (hg : w.heap[g]? = some (.cells old t (0, 0))) (hi : (P.info? ty).map (·.size) = some n) (hl : cs.size = n) (hl2 : old.size = n) (h1 : cs.all (·.oneCell') = true)
    (h : wpList P ops Q rest (a.put o.dst undef) (w.setRow g cs)) : wpList P ops Q (o :: rest) a w :=
  BigFrame.wpList_want hw fun _ hK => wp_store_row ty x y ho g _ hx hy t _ hg (by rw [hl]; exact hi) (by rw [hl, hl2]) h1 (hK _ _ h)
theorem results_cells2 {P : Program} {fn : Func} {p u : Tmp} {ty : TypeId} (h : fn.results = #[.cell p ty, .tmp u]) (tmps : Array Value) (w : World) (g : Nat) (cs : Array Value) (c : Value) (t e : TypeId) (n : Nat)
    (hp : tmps.getD p undef = .pointer (some ⟨g, 0, none⟩)) (hc : tmps.getD u undef = c) (hg : w.heap[g]? = some (.cells cs t (0, 0)))
    (hu : P.underlying ty = some (.array n e)) (hi : (P.info? ty).map (·.size) = some n) (hl : cs.size = n) :
    (results fn tmps).run P w = .ok (.tuple #[.agg cs, c]) w := by
  rw [results_cell_tmp h, hp, hc]
  have := run_loadVar_row (P := P) w g t ty _ (0, 0) _ hg hu rfl (by rw [hl]; exact hi)
  simp [asAddr, this]
/-- A slice of integers: its numbers. -/
def SliceOf (k : IntKind) (w : World) (a : Option Addr) (xs : List Int) : Prop :=
  ∀ i, i < xs.length → ∃ b off, a = some ⟨b, off, none⟩ ∧ w.cell? ⟨b, off + i, none⟩ = some (.int k (xs.getD i 0))
theorem SliceOf.grown {k : IntKind} {W w : World} {a : Option Addr} {xs : List Int} (h : SliceOf k W a xs) (hg : Grown W w) : SliceOf k w a xs := by
  intro i hi
  obtain ⟨b, off, e, hc⟩ := h i hi
  exact ⟨b, off, e, cell_grown hg hc⟩
theorem sliceOf_block {k : IntKind} {w : World} {b : Nat} {xs : List Int} {t : TypeId} {fr : Nat × Nat} (h : w.heap[b]? = some (.cells (kCells k xs) t fr)) : SliceOf k w (some ⟨b, 0, none⟩) xs := by
  intro i hi
  exact ⟨b, 0, rfl, by rw [Nat.zero_add]; exact cell_ints h hi⟩
/-- Every number fits its kind. -/
def Fits (k : IntKind) (xs : List Int) : Prop := ∀ x ∈ xs, (Lit.int k x).wf = true
theorem Fits.get64 {xs : List Int} (h : Fits .i64 xs) (i : Nat) : -9223372036854775808 ≤ xs.getD i 0 ∧ xs.getD i 0 ≤ 9223372036854775807 := by
  by_cases hi : i < xs.length
  · have := bounds_i64 (h _ (List.getElem_mem hi))
    simpa [List.getD, List.getElem?_eq_getElem hi] using this
  · simp [List.getD, List.getElem?_eq_none (by omega : xs.length ≤ i)]

/-- 'make([]T, n)' of integers. -/
theorem madeInts (k : IntKind) (n : Nat) : madeCells (Value.int k 0).cells (n * 1) = kCells k (List.replicate n 0) := by
  unfold madeCells kCells
  apply Array.ext_getElem?
  intro i
  by_cases h : i < n
  · simp [Value.cells, h, Nat.mod_one]
  · simp [Value.cells, h]
theorem run_make_ints {P : Program} {t e : TypeId} {k : IntKind} {bytes : Nat} (ht : P.underlying t = some (.slice e)) (hi' : (P.info? e).map (fun i => (i.zero, i.size, i.bytes)) = some (some (.int k 0), 1, bytes))
    (n : Nat) (hb : bytes * n ≤ 281474976710656) (hn : n ≤ 9223372036854775807) (w : World) :
    (Instr.makeSlice t (.int .i64 n) (.int .i64 n)).run P w = .ok (.slice (some ⟨w.heap.size, 0, none⟩) n n) (w.alloc (.cells (kCells k (List.replicate n 0)) e)) := by
  obtain ⟨i0, hi, hh⟩ := Option.map_eq_some_iff.1 hi'
  simp only [Prod.mk.injEq] at hh
  obtain ⟨h1, h2, h3⟩ := hh
  have hb' : (i0.bytes : Int) * (n : Int) ≤ 281474976710656 := by
    have h : ((bytes * n : Nat) : Int) ≤ 281474976710656 := by omega
    rw [Int.natCast_mul] at h; rw [h3]; exact h
  have := run_make (P := P) w t e i0 (.int k 0) ht hi h1 .i64 .i64 n n (by omega) (Int.le_refl _) hb' (by omega)
  rw [this, h2]
  simp only [Int.toNat_natCast]
  rw [madeInts]

set_option maxRecDepth 100000 in
/-- Two slices with the same numbers. -/
theorem eqInt64S_same (a b : Option Addr) (ca cb : Nat) (xs : List Int) (hn : xs.length ≤ 1048576) (w : World) (ha : SliceOf .i64 w a xs) (hb : SliceOf .i64 w b xs) :
    Calls Tryd.prog 25 #[.slice a xs.length ca, .slice b xs.length cb] w fun e w' => e = .returned (.bool true) ∧ Grown w w' := by
  have HA := hid ha
  have HB := hid hb
  clear ha hb
  obtain ⟨n, hxn⟩ : ∃ n, n = xs.length := ⟨_, rfl⟩
  rw [← hxn] at hn ⊢
  have HN := hid hxn
  clear hxn
  go_enter Tryd.func25, Tryd.ntmps25
  go_wp2_with fail
  go_loopw [5] (fun i wr => ∃ k : Nat, k ≤ n ∧ i = .int .i64 k ∧ Hid (Grown w wr)) (fun i _ => n - (intOf i).toNat)
  case atStart => exact ⟨0, Nat.zero_le _, rfl, hid (Grown.refl _)⟩
  case round =>
    obtain ⟨k, hk, rfl, hg⟩ := hrel
    by_cases hlt : k < n
    · obtain ⟨b0, o0, rfl, h0⟩ := HA.out k (by rw [← HN.out]; exact hlt)
      obtain ⟨b1, o1, rfl, h1⟩ := HB.out k (by rw [← HN.out]; exact hlt)
      have hc0 := cell_grown hg.out h0
      have hc1 := cell_grown hg.out h1
      clear h0 h1
      generalize xs.getD k 0 = v at *
      have hb0 : (0 : Int) ≤ k := by omega
      have hb1 : (k : Int) < n := by omega
      go_wp2_with fail
      go_quiet (fail)
      go_wp2_with fail
      go_roundw
      case rel => exact ⟨k + 1, by omega, by go_num, hid (hg.out.drewN _)⟩
      case measure => simp [intOf]; omega
    · go_wp2_with fail
      go_ret
      exact ⟨rfl, hg.out⟩
end Go.Proofs.YtnkoakneffjkbaaDoor
