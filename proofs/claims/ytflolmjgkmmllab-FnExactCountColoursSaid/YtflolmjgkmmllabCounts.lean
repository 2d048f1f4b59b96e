/- CountColours: the two functions and the law's walk. -/
import Derived.Test.YtflolmjgkmmllabValid
import Derived.Test.YtflolmjgkmmllabToFlag
import Derived.Test.YtflolmjgkmmllabArr6
namespace Go.Proofs.Ytflolmjgkmmllab
open Go.RowKit
/-- How many of the first k cells have a colour. -/
def cntOf (xs : List Int) (c : Nat) : Nat → Int
  | 0 => 0
  | k + 1 => cntOf xs c k + (if xs.getD k 0 = (c : Int) then 1 else 0)
def cntL (xs : List Int) (k : Nat) : List Int := (List.range 6).map fun c => cntOf xs c k
theorem cntL_length (xs : List Int) (k : Nat) : (cntL xs k).length = 6 := by simp [cntL]
theorem cntL_zero (xs : List Int) : cntL xs 0 = zeros6 := by unfold cntL zeros6; rfl
theorem cntOf_bd (xs : List Int) (c k : Nat) : 0 ≤ cntOf xs c k ∧ cntOf xs c k ≤ k := by
  induction k with
  | zero => simp [cntOf]
  | succ k ih => simp only [cntOf]; split <;> omega
theorem cntL_get (xs : List Int) (k v : Nat) (h : v < 6) : (cntL xs k).getD v 0 = cntOf xs v k := by simp [cntL, List.getD, h]
theorem cntL_bd (xs : List Int) (k v : Nat) : 0 ≤ (cntL xs k).getD v 0 ∧ (cntL xs k).getD v 0 ≤ k := by
  by_cases h : v < 6
  · rw [cntL_get xs k v h]; exact cntOf_bd xs v k
  · simp [List.getD, List.getElem?_eq_none (show (cntL xs k).length ≤ v by rw [cntL_length]; omega)]
theorem cntL_set (xs : List Int) (k v : Nat) (_hk : k < xs.length) (hv : xs.getD k 0 = (v : Int)) (hv6 : v < 6) : (cntL xs k).set v ((cntL xs k).getD v 0 + 1) = cntL xs (k + 1) := by
  rw [cntL_get xs k v hv6]
  apply List.ext_getElem?
  intro i
  by_cases hi : i = v
  · subst hi
    rw [List.getElem?_set_self (by rw [cntL_length]; exact hv6)]
    simp only [cntL, List.getElem?_map, List.getElem?_range hv6, Option.map_some, cntOf]
    rw [if_pos hv]
  · rw [List.getElem?_set_ne (Ne.symm hi)]
    by_cases h6 : i < 6
    · simp only [cntL, List.getElem?_map, List.getElem?_range h6, Option.map_some, cntOf]
      rw [if_neg (by rw [hv]; omega)]; simp
    · rw [List.getElem?_eq_none (by rw [cntL_length]; omega), List.getElem?_eq_none (by rw [cntL_length]; omega)]
theorem colour_nat {xs : List Int} (ho : okB xs = true) (hb : Bytes xs) (k : Nat) (hk : k < xs.length) : ∃ v : Nat, xs.getD k 0 = (v : Int) ∧ v < 6 := by
  have h1 := (hb.get k).1
  have h2 : xs.getD k 0 ≤ 5 := by
    unfold okB at ho
    have := List.all_eq_true.1 ho _ (List.getElem_mem hk)
    simpa [List.getD, List.getElem?_eq_getElem hk] using this
  exact ⟨(xs.getD k 0).toNat, by omega, by omega⟩
def cntF (xs : List Int) : List Int := if okB xs then cntL xs 24 else zeros6
def cntC (xs : List Int) : Int := if okB xs then 0 else 1
theorem cntF_length (xs : List Int) : (cntF xs).length = 6 := by unfold cntF; split <;> simp [cntL_length, zeros6]
theorem built_counts : Try.prog.built 33 [] = some (kCells .i64 zeros6) := by kernel_rfl

set_option maxHeartbeats 1000000 in
theorem spec_CountColours_any (xs : List Int) (l : xs.length = 24) (hb : Bytes xs) (w : World) :
    Calls Try.prog 25 #[.agg (byteCells xs)] w fun e w' => e = .returned (.tuple #[.agg (kCells .i64 (cntF xs)), .int .i64 (cntC xs)]) ∧ Grown w w' := by
  have L := hid l
  have B := hid hb
  clear l hb
  have b0 : Hid (((((w.alloc (.cells (byteCells xs) 25)).alloc (.cells (kCells .i64 zeros6) 33)).alloc (.cells (kCells .i64 zeros6) 33)).setRow (w.heap.size + 1 + 1) (kCells .i64 zeros6)).heap[w.heap.size]? = some (.cells (byteCells xs) 25 (0, 0))) := hid (heap_row_kept (by omega) (heap_kept (heap_kept (heap_new rfl))))
  have b1 : Hid (((((w.alloc (.cells (byteCells xs) 25)).alloc (.cells (kCells .i64 zeros6) 33)).alloc (.cells (kCells .i64 zeros6) 33)).setRow (w.heap.size + 1 + 1) (kCells .i64 zeros6)).heap[w.heap.size + 1]? = some (.cells (kCells .i64 zeros6) 33 (0, 0))) := hid (heap_row_kept (by omega) (heap_kept (heap_new (by simp))))
  have b2 : Hid (((((w.alloc (.cells (byteCells xs) 25)).alloc (.cells (kCells .i64 zeros6) 33)).alloc (.cells (kCells .i64 zeros6) 33)).setRow (w.heap.size + 1 + 1) (kCells .i64 zeros6)).heap[w.heap.size + 1 + 1]? = some (.cells (kCells .i64 zeros6) 33 (0, 0))) := hid (heap_row_set (heap_new (by simp)))
  have gr : Hid (Grown w ((((w.alloc (.cells (byteCells xs) 25)).alloc (.cells (kCells .i64 zeros6) 33)).alloc (.cells (kCells .i64 zeros6) 33)).setRow (w.heap.size + 1 + 1) (kCells .i64 zeros6))) := hid (Grown_setRow ((((Grown.refl w).alloc _ _).alloc _ _).alloc _ _) (by omega) _)
  have z0 := hid (heap_new (w := (w.alloc (.cells (byteCells xs) 25)).alloc (.cells (kCells .i64 zeros6) 33)) (o := (.cells (kCells .i64 zeros6) 33)) (n := w.heap.size + 1 + 1) (by simp))
  cases ho : okB xs
  · skip
    have e1 : cntF xs = zeros6 := by simp [cntF, ho]
    have e2 : cntC xs = 1 := by simp [cntC, ho]
    rw [e1, e2]
    clear e1 e2
    go_enter Try.func25, Try.ntmps25
    go_wp2_with (first | (refine wpList_build_to rfl 33 rfl built_counts ?_) | (refine wpList_store_cells rfl 33 _ _ rfl _ (kCells .i64 zeros6) (kCells .i64 zeros6) rfl rfl _ 6 z0.out (by kernel_rfl) (by rw [kCells_size]; exact rfl) (by rw [kCells_size]; exact rfl) (kCells_one _ _) ?_))
    refine (l01Ok_any _ _ xs L.out _ (bytesAt_of_block b0.out)).mono ?_
    rintro e w1 ⟨rfl, hw⟩
    have hw' : ((((w.alloc (.cells (byteCells xs) 25)).alloc (.cells (kCells .i64 zeros6) 33)).alloc (.cells (kCells .i64 zeros6) 33)).setRow (w.heap.size + 1 + 1) (kCells .i64 zeros6)) = w1 := hw
    clear hw
    rw [hw'] at b0 b1 b2 gr
    clear hw' z0
    go_wp2_with (first | (refine wpList_load_cells rfl 33 _ rfl _ rfl _ (kCells .i64 zeros6) _ 6 b2.out Try.underlying33 (by kernel_rfl) (by rw [kCells_size]; exact rfl) ?_) | (refine wpList_store_cells rfl 33 _ _ rfl _ (kCells .i64 zeros6) (kCells .i64 zeros6) rfl rfl _ 6 b1.out (by kernel_rfl) (by rw [kCells_size]; exact rfl) (by rw [kCells_size]; exact rfl) (kCells_one _ _) ?_))
    refine bodyPost_ret (results_cells2 (by rfl) _ _ _ _ _ _ _ _ rfl rfl (heap_row_set b1.out) Try.underlying33 (by kernel_rfl) (by rw [kCells_size]; exact rfl)) rfl ⟨rfl, ?_⟩
    exact Grown_setRow gr.out (by omega) _
  · skip
    have e1 : cntF xs = cntL xs 24 := by simp [cntF, ho]
    have e2 : cntC xs = 0 := by simp [cntC, ho]
    rw [e1, e2]
    clear e1 e2
    have OKX := hid ho
    go_enter Try.func25, Try.ntmps25
    go_wp2_with (first | (refine wpList_build_to rfl 33 rfl built_counts ?_) | (refine wpList_store_cells rfl 33 _ _ rfl _ (kCells .i64 zeros6) (kCells .i64 zeros6) rfl rfl _ 6 z0.out (by kernel_rfl) (by rw [kCells_size]; exact rfl) (by rw [kCells_size]; exact rfl) (kCells_one _ _) ?_))
    refine (l01Ok_any _ _ xs L.out _ (bytesAt_of_block b0.out)).mono ?_
    rintro e w1 ⟨rfl, hw⟩
    have hw' : ((((w.alloc (.cells (byteCells xs) 25)).alloc (.cells (kCells .i64 zeros6) 33)).alloc (.cells (kCells .i64 zeros6) 33)).setRow (w.heap.size + 1 + 1) (kCells .i64 zeros6)) = w1 := hw
    clear hw
    rw [hw'] at b0 b1 b2 gr
    clear hw' z0
    go_wp2_with fail
    clear ho
    · go_loopw [5] (fun i wr => ∃ k : Nat, k ≤ 24 ∧ i = .int .i64 k ∧ Hid (Grown w wr) ∧ Hid (wr.heap[w.heap.size]? = some (.cells (byteCells xs) 25 (0, 0))) ∧ Hid (wr.heap[w.heap.size + 1]? = some (.cells (kCells .i64 zeros6) 33 (0, 0))) ∧ Hid (wr.heap[w.heap.size + 1 + 1]? = some (.cells (kCells .i64 (cntL xs k)) 33 (0, 0)))) (fun i _ => 24 - (intOf i).toNat)
      case atStart => exact ⟨0, Nat.zero_le _, rfl, gr, b0, b1, hid (by rw [cntL_zero]; exact b2.out)⟩
      case round =>
        clear gr b0 b1 b2
        obtain ⟨k, hk, rfl, gr, b0, b1, b2⟩ := hrel
        by_cases hlt : k < 24
        · obtain ⟨v, hv, hv6⟩ := colour_nat OKX.out B.out k (by rw [L.out]; exact hlt)
          have hc0 : wr.cell? ⟨w.heap.size, k, none⟩ = some (.int .u8 (v : Int)) := by
            rw [cell_of_row _ _ _ _ _ _ b0.out, byteCells_get xs k (by rw [L.out]; exact hlt), hv]
          have hc2 := cell_ints b2.out (i := v) (by rw [cntL_length]; exact hv6)
          have hf2 : wr.frozen? ⟨w.heap.size + 1 + 1, v, none⟩ = false := frozen_of_row _ _ _ _ _ b2.out
          have HS := hid (cntL_set xs k v (by rw [L.out]; exact hlt) hv hv6)
          obtain ⟨hy0, hy1⟩ := cntL_bd xs k v
          clear hv
          generalize (cntL xs k).getD v 0 = y at *
          have hv0 : (0 : Int) ≤ v := by omega
          go_wp2_with fail
          go_roundw
          case rel => exact ⟨k + 1, by omega, by go_num, hid (gr.out.setCell (by dsimp only; omega) _), hid (heap_stored (by dsimp only; omega) b0.out), hid (heap_stored (by dsimp only; omega) b1.out), hid (by rw [← HS.out]; exact heap_int_set b2.out)⟩
          case measure => simp [intOf]; omega
        · have hk24 : k = 24 := by omega
          have H2 : Hid (wr.heap[w.heap.size + 1 + 1]? = some (.cells (kCells .i64 (cntL xs 24)) 33 (0, 0))) := by rw [hk24] at b2; exact b2
          have HL := hid (cntL_length xs 24)
          clear hk24 b2
          go_wp2_with (first | (refine wpList_load_cells rfl 33 _ rfl _ rfl _ (kCells .i64 (cntL xs 24)) _ 6 H2.out Try.underlying33 (by kernel_rfl) (by rw [kCells_size]; exact HL.out) ?_) | (refine wpList_store_cells rfl 33 _ _ rfl _ (kCells .i64 (cntL xs 24)) (kCells .i64 zeros6) rfl rfl _ 6 b1.out (by kernel_rfl) (by rw [kCells_size]; exact HL.out) (by rw [kCells_size]; exact rfl) (kCells_one _ _) ?_))
          refine bodyPost_ret (results_cells2 (by rfl) _ _ _ _ _ _ _ _ rfl rfl (heap_row_set b1.out) Try.underlying33 (by kernel_rfl) (by rw [kCells_size]; exact HL.out)) rfl ⟨rfl, ?_⟩
          exact Grown_setRow gr.out (by omega) _

set_option maxHeartbeats 1000000 in
theorem impl_CountColours_any (xs : List Int) (l : xs.length = 24) (hb : Bytes xs) (w : World) :
    Calls Try.prog 26 #[.agg (byteCells xs)] w fun e w' => e = .returned (.tuple #[.agg (kCells .i64 (cntF xs)), .int .i64 (cntC xs)]) ∧ Grown w w' := by
  have L := hid l
  have B := hid hb
  clear l hb
  have b0 : Hid (((w.alloc (.cells (byteCells xs) 25)).alloc (.cells (kCells .i64 zeros6) 33)).heap[w.heap.size]? = some (.cells (byteCells xs) 25 (0, 0))) := hid (heap_kept (heap_new rfl))
  have b1 : Hid (((w.alloc (.cells (byteCells xs) 25)).alloc (.cells (kCells .i64 zeros6) 33)).heap[w.heap.size + 1]? = some (.cells (kCells .i64 zeros6) 33 (0, 0))) := hid (heap_new (by simp))
  have gr : Hid (Grown w ((w.alloc (.cells (byteCells xs) 25)).alloc (.cells (kCells .i64 zeros6) 33))) := hid (((Grown.refl w).alloc _ _).alloc _ _)
  cases ho : okB xs
  · skip
    have e1 : cntF xs = zeros6 := by simp [cntF, ho]
    have e2 : cntC xs = 1 := by simp [cntC, ho]
    rw [e1, e2]
    clear e1 e2
    go_enter Try.func26, Try.ntmps26
    go_wp2_with (refine wpList_load_bytes rfl 25 _ rfl _ rfl _ xs _ 24 b0.out Try.underlying25 (by kernel_rfl) L.out ?_)
    refine (impl_ValidFlag_any xs L.out B.out _).mono ?_
    rintro e w1 ⟨rfl, g1⟩
    replace b0 := hid (heap_grown g1 b0.out)
    replace b1 := hid (heap_grown g1 b1.out)
    replace gr := hid (Grown_trans gr.out g1)
    go_wp2_with (first | (refine wpList_build_to rfl 33 rfl built_counts ?_) | (refine wpList_store_cells rfl 33 _ _ rfl _ (kCells .i64 zeros6) (kCells .i64 zeros6) rfl rfl _ 6 b1.out (by kernel_rfl) (by rw [kCells_size]; exact rfl) (by rw [kCells_size]; exact rfl) (kCells_one _ _) ?_))
    refine bodyPost_ret (results_cells2 (by rfl) _ _ _ _ _ _ _ _ rfl rfl (heap_row_set b1.out) Try.underlying33 (by kernel_rfl) (by rw [kCells_size]; exact rfl)) rfl ⟨rfl, ?_⟩
    exact Grown_setRow gr.out (by omega) _
  · skip
    have e1 : cntF xs = cntL xs 24 := by simp [cntF, ho]
    have e2 : cntC xs = 0 := by simp [cntC, ho]
    rw [e1, e2]
    clear e1 e2
    have OKX := hid ho
    go_enter Try.func26, Try.ntmps26
    go_wp2_with (refine wpList_load_bytes rfl 25 _ rfl _ rfl _ xs _ 24 b0.out Try.underlying25 (by kernel_rfl) L.out ?_)
    refine (impl_ValidFlag_any xs L.out B.out _).mono ?_
    rintro e w1 ⟨rfl, g1⟩
    replace b0 := hid (heap_grown g1 b0.out)
    replace b1 := hid (heap_grown g1 b1.out)
    replace gr := hid (Grown_trans gr.out g1)
    have hlt1 := lt_of_heap b1.out
    have b2 := hid (heap_new (w := w1) (o := (.cells (kCells .i64 zeros6) 33)) rfl)
    replace b0 := hid (heap_kept (o := (.cells (kCells .i64 zeros6) 33)) b0.out)
    replace b1 := hid (heap_kept (o := (.cells (kCells .i64 zeros6) 33)) b1.out)
    replace gr := hid (gr.out.alloc (kCells .i64 zeros6) 33)
    go_wp2_with (refine wpList_load_bytes rfl 25 _ rfl _ rfl _ xs _ 24 b0.out Try.underlying25 (by kernel_rfl) L.out ?_)
    generalize hwz : w1.heap.size = z at *
    clear hwz g1 ho
    · go_loopw [12] (fun i wr => ∃ k : Nat, k ≤ 24 ∧ i = .int .i64 k ∧ Hid (Grown w wr) ∧ Hid (wr.heap[w.heap.size]? = some (.cells (byteCells xs) 25 (0, 0))) ∧ Hid (wr.heap[w.heap.size + 1]? = some (.cells (kCells .i64 zeros6) 33 (0, 0))) ∧ Hid (wr.heap[z]? = some (.cells (kCells .i64 (cntL xs k)) 33 (0, 0)))) (fun i _ => 24 - (intOf i).toNat)
      case atStart => exact ⟨0, Nat.zero_le _, rfl, gr, b0, b1, hid (by rw [cntL_zero]; exact b2.out)⟩
      case round =>
        clear gr b0 b1 b2
        obtain ⟨k, hk, rfl, gr, b0, b1, b2⟩ := hrel
        by_cases hlt : k < 24
        · obtain ⟨v, hv, hv6⟩ := colour_nat OKX.out B.out k (by rw [L.out]; exact hlt)
          have hc0 : wr.cell? ⟨w.heap.size, k, none⟩ = some (.int .u8 (v : Int)) := by
            rw [cell_of_row _ _ _ _ _ _ b0.out, byteCells_get xs k (by rw [L.out]; exact hlt), hv]
          have hi := run_index_bytes (P := Try.prog) Try.underlying25 Try.underlying5 (by kernel_rfl) xs k hlt L.out
          rw [hv] at hi
          have hc2 := cell_ints b2.out (i := v) (by rw [cntL_length]; exact hv6)
          have hf2 : wr.frozen? ⟨z, v, none⟩ = false := frozen_of_row _ _ _ _ _ b2.out
          have HS := hid (cntL_set xs k v (by rw [L.out]; exact hlt) hv hv6)
          obtain ⟨hy0, hy1⟩ := cntL_bd xs k v
          clear hv
          generalize (cntL xs k).getD v 0 = y at *
          have hv0 : (0 : Int) ≤ v := by omega
          go_wp2_with fail
          go_roundw
          case rel => exact ⟨k + 1, by omega, by go_num, hid (gr.out.setCell (by dsimp only; omega) _), hid (heap_stored (by dsimp only; omega) b0.out), hid (heap_stored (by dsimp only; omega) b1.out), hid (by rw [← HS.out]; exact heap_int_set b2.out)⟩
          case measure => simp [intOf]; omega
        · have hk24 : k = 24 := by omega
          have H2 : Hid (wr.heap[z]? = some (.cells (kCells .i64 (cntL xs 24)) 33 (0, 0))) := by rw [hk24] at b2; exact b2
          have HL := hid (cntL_length xs 24)
          clear hk24 b2
          go_wp2_with (first | (refine wpList_load_cells rfl 33 _ rfl _ rfl _ (kCells .i64 (cntL xs 24)) _ 6 H2.out Try.underlying33 (by kernel_rfl) (by rw [kCells_size]; exact HL.out) ?_) | (refine wpList_store_cells rfl 33 _ _ rfl _ (kCells .i64 (cntL xs 24)) (kCells .i64 zeros6) rfl rfl _ 6 b1.out (by kernel_rfl) (by rw [kCells_size]; exact HL.out) (by rw [kCells_size]; exact rfl) (kCells_one _ _) ?_))
          refine bodyPost_ret (results_cells2 (by rfl) _ _ _ _ _ _ _ _ rfl rfl (heap_row_set b1.out) Try.underlying33 (by kernel_rfl) (by rw [kCells_size]; exact HL.out)) rfl ⟨rfl, ?_⟩
          exact Grown_setRow gr.out (by omega) _

set_option maxHeartbeats 1000000 in
set_option linter.unusedVariables false in
theorem FnExactCountColours_walk (a0 : List Int) (l0 : a0.length = 24) (w0 : Bytes a0) (w : World) :
    Calls Try.prog 7 #[.agg (byteCells a0)] w fun e w' => e = .returned (.bool true) ∧ Grown w w' := by
  have hs := spec_CountColours_any a0 l0 w0
  have hi := impl_CountColours_any a0 l0 w0
  have hr0 : (cntF a0).length = 6 := cntF_length a0
  generalize cntF a0 = r0 at *
  generalize cntC a0 = r1 at *
  have HS := hid hs
  have HI := hid hi
  clear hs hi
  have HL0 := hid l0
  clear l0 w0
  have HR0 := hid hr0
  clear hr0
  have b0 : Hid ((w.alloc (.cells (byteCells a0) 22)).heap[w.heap.size]? = some (.cells (byteCells a0) 22 (0, 0))) := hid (heap_new rfl)
  have gr : Hid (Grown w (w.alloc (.cells (byteCells a0) 22))) := hid ((Grown.refl _).alloc _ _)
  go_enter Try.func7, Try.ntmps7
  go_wp2_with (first | (refine wpList_load_bytes rfl 22 _ rfl _ rfl _ a0 _ 24 b0.out Try.underlying22 (by kernel_rfl) HL0.out ?_))
  refine (toFlag_any a0 HL0.out _).mono ?_
  rintro e W1 ⟨rfl, g1⟩
  replace b0 := hid (heap_grown g1 b0.out)
  replace gr := hid (Grown_trans gr.out g1)
  clear g1
  go_wp2_with (first | (refine wpList_load_bytes rfl 22 _ rfl _ rfl _ a0 _ 24 b0.out Try.underlying22 (by kernel_rfl) HL0.out ?_))
  refine (HS.out _).mono ?_
  rintro e W2 ⟨rfl, g2⟩
  replace b0 := hid (heap_grown g2 b0.out)
  replace gr := hid (Grown_trans gr.out g2)
  clear g2
  have ns0 := hid (heap_new (w := W2) (o := .cells (kCells .i64 zeros6) 33) rfl)
  have ltb0 := lt_of_heap b0.out
  replace b0 := hid (heap_row_kept (g := W2.heap.size) (cs := kCells .i64 r0) (by omega) (heap_kept (o := .cells (kCells .i64 zeros6) 33) b0.out))
  clear ltb0
  have cs0 := hid (heap_row_set (cs := kCells .i64 r0) ns0.out)
  have gl := gr.out.size
  replace gr := hid (Grown_setRow (gr.out.alloc (kCells .i64 zeros6) 33) gl (kCells .i64 r0))
  clear gl
  go_wp2_with (first | (refine wpList_store_cells rfl 33 _ _ rfl _ (kCells .i64 r0) (kCells .i64 zeros6) rfl rfl _ 6 ns0.out (by kernel_rfl) (by simp only [kCells_size, byteCells_size]; exact HR0.out) rfl (kCells_one _ r0) ?_) | (refine wpList_load_bytes rfl 22 _ rfl _ rfl _ a0 _ 24 b0.out Try.underlying22 (by kernel_rfl) HL0.out ?_) | (refine wpList_load_cells rfl 33 _ rfl _ rfl _ (kCells .i64 r0) _ 6 cs0.out Try.underlying33 (by kernel_rfl) (by simp only [kCells_size, byteCells_size]; exact HR0.out) ?_))
  refine (toFlag_any a0 HL0.out _).mono ?_
  rintro e W3 ⟨rfl, g3⟩
  replace b0 := hid (heap_grown g3 b0.out)
  replace cs0 := hid (heap_grown g3 cs0.out)
  replace gr := hid (Grown_trans gr.out g3)
  clear g3
  go_wp2_with (first | (refine wpList_load_bytes rfl 22 _ rfl _ rfl _ a0 _ 24 b0.out Try.underlying22 (by kernel_rfl) HL0.out ?_) | (refine wpList_load_cells rfl 33 _ rfl _ rfl _ (kCells .i64 r0) _ 6 cs0.out Try.underlying33 (by kernel_rfl) (by simp only [kCells_size, byteCells_size]; exact HR0.out) ?_))
  refine (HI.out _).mono ?_
  rintro e W4 ⟨rfl, g4⟩
  replace b0 := hid (heap_grown g4 b0.out)
  replace cs0 := hid (heap_grown g4 cs0.out)
  replace gr := hid (Grown_trans gr.out g4)
  clear g4
  have ni0 := hid (heap_new (w := W4) (o := .cells (kCells .i64 zeros6) 33) rfl)
  have ltb0 := lt_of_heap b0.out
  replace b0 := hid (heap_row_kept (g := W4.heap.size) (cs := kCells .i64 r0) (by omega) (heap_kept (o := .cells (kCells .i64 zeros6) 33) b0.out))
  clear ltb0
  have ltcs0 := lt_of_heap cs0.out
  replace cs0 := hid (heap_row_kept (g := W4.heap.size) (cs := kCells .i64 r0) (by omega) (heap_kept (o := .cells (kCells .i64 zeros6) 33) cs0.out))
  clear ltcs0
  have ci0 := hid (heap_row_set (cs := kCells .i64 r0) ni0.out)
  have gl := gr.out.size
  replace gr := hid (Grown_setRow (gr.out.alloc (kCells .i64 zeros6) 33) gl (kCells .i64 r0))
  clear gl
  go_wp2_with (first | (refine wpList_store_cells rfl 33 _ _ rfl _ (kCells .i64 r0) (kCells .i64 zeros6) rfl rfl _ 6 ni0.out (by kernel_rfl) (by simp only [kCells_size, byteCells_size]; exact HR0.out) rfl (kCells_one _ r0) ?_) | (refine wpList_load_bytes rfl 22 _ rfl _ rfl _ a0 _ 24 b0.out Try.underlying22 (by kernel_rfl) HL0.out ?_) | (refine wpList_load_cells rfl 33 _ rfl _ rfl _ (kCells .i64 r0) _ 6 cs0.out Try.underlying33 (by kernel_rfl) (by simp only [kCells_size, byteCells_size]; exact HR0.out) ?_) | (refine wpList_load_cells rfl 33 _ rfl _ rfl _ (kCells .i64 r0) _ 6 ci0.out Try.underlying33 (by kernel_rfl) (by simp only [kCells_size, byteCells_size]; exact HR0.out) ?_))
  refine (eqInt64A6_same r0 HR0.out _).mono ?_
  rintro e W5 ⟨rfl, g5⟩
  replace b0 := hid (heap_grown g5 b0.out)
  replace cs0 := hid (heap_grown g5 cs0.out)
  replace ci0 := hid (heap_grown g5 ci0.out)
  replace gr := hid (Grown_trans gr.out g5)
  clear g5
  go_wp2_with (first | (refine wpList_load_bytes rfl 22 _ rfl _ rfl _ a0 _ 24 b0.out Try.underlying22 (by kernel_rfl) HL0.out ?_) | (refine wpList_load_cells rfl 33 _ rfl _ rfl _ (kCells .i64 r0) _ 6 cs0.out Try.underlying33 (by kernel_rfl) (by simp only [kCells_size, byteCells_size]; exact HR0.out) ?_) | (refine wpList_load_cells rfl 33 _ rfl _ rfl _ (kCells .i64 r0) _ 6 ci0.out Try.underlying33 (by kernel_rfl) (by simp only [kCells_size, byteCells_size]; exact HR0.out) ?_))
  go_ret
  exact ⟨rfl, gr.out⟩
end Go.Proofs.Ytflolmjgkmmllab
