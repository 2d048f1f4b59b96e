/- RecolourFlag: the two functions and the law's walk. -/
import Derived.Test.YtflolmjgkmmllabValid
import Derived.Test.YtflolmjgkmmllabToFlag
namespace Go.Proofs.Ytflolmjgkmmllab
open Go.RowKit
/-- The flag of which the first k cells have been gone through. -/
def recTo (xs : List Int) (x y : Int) (k : Nat) : List Int := ((xs.take k).map fun v => if v = x then y else v) ++ xs.drop k
theorem recTo_zero (xs : List Int) (x y : Int) : recTo xs x y 0 = xs := by simp [recTo]
theorem recTo_length (xs : List Int) (x y : Int) (k : Nat) : (recTo xs x y k).length = xs.length := by simp [recTo]; omega
theorem recTo_get (xs : List Int) (x y : Int) (k : Nat) : (recTo xs x y k).getD k 0 = xs.getD k 0 := by
  unfold recTo
  by_cases h : k < xs.length
  · simp [List.getD, List.getElem?_append_right, Nat.min_eq_left (Nat.le_of_lt h)]
  · simp [List.getD, List.drop_eq_nil_of_le (Nat.le_of_not_lt h), List.getElem?_eq_none (Nat.le_of_not_lt h), List.take_of_length_le (Nat.le_of_not_lt h)]
theorem recTo_succ (xs : List Int) (x y : Int) (k : Nat) (h : k < xs.length) : recTo xs x y (k + 1) = (recTo xs x y k).set k (if xs.getD k 0 = x then y else xs.getD k 0) := by
  unfold recTo
  rw [List.take_succ_eq_append_getElem h, List.map_append, List.append_assoc, List.set_append_right _ _ (by simp; omega)]
  congr 1
  rw [List.length_map, List.length_take, Nat.min_eq_left (Nat.le_of_lt h), Nat.sub_self]
  conv => rhs; rw [List.drop_eq_getElem_cons h, List.set_cons_zero]
  simp [List.getD, List.getElem?_eq_getElem h]
theorem recTo_yes (xs : List Int) (x y : Int) (k : Nat) (h : k < xs.length) : xs.getD k 0 = x → recTo xs x y (k + 1) = (recTo xs x y k).set k y := by
  intro e; rw [recTo_succ xs x y k h, if_pos e]
theorem recTo_no (xs : List Int) (x y : Int) (k : Nat) : xs.getD k 0 ≠ x → recTo xs x y (k + 1) = recTo xs x y k := by
  intro e
  by_cases h : k < xs.length
  · rw [recTo_succ xs x y k h, if_neg e]
    apply List.ext_getElem?
    intro i
    by_cases hi : i = k
    · subst hi
      have hl : i < (recTo xs x y i).length := by rw [recTo_length]; exact h
      rw [List.getElem?_set_self hl]
      have := recTo_get xs x y i
      simp [List.getD, List.getElem?_eq_getElem hl, List.getElem?_eq_getElem h] at this ⊢
      exact this.symm
    · rw [List.getElem?_set_ne (Ne.symm hi)]
  · simp [recTo, List.take_of_length_le (show xs.length ≤ k + 1 by omega), List.take_of_length_le (show xs.length ≤ k by omega), List.drop_eq_nil_of_le (show xs.length ≤ k + 1 by omega), List.drop_eq_nil_of_le (show xs.length ≤ k by omega)]
def recF (xs : List Int) (x y : Int) : List Int := if okB xs && colourB x && colourB y then recTo xs x y 24 else zeros24
def recC (xs : List Int) (x y : Int) : Int := if okB xs then (if colourB x && colourB y then 0 else 2) else 1
theorem recF_length (xs : List Int) (l : xs.length = 24) (x y : Int) : (recF xs x y).length = 24 := by
  unfold recF; split
  · rw [recTo_length, l]
  · rfl

set_option maxHeartbeats 1000000 in
theorem spec_RecolourFlag_any (xs : List Int) (l : xs.length = 24) (hb : Bytes xs) (x : Int) (_wx : (Lit.int .i64 x).wf = true) (y : Int) (_wy : (Lit.int .i64 y).wf = true) (w : World) :
    Calls Try.prog 23 #[.agg (byteCells xs), .int .i64 x, .int .i64 y] w fun e w' => e = .returned (.tuple #[.agg (byteCells (recF xs x y)), .int .i64 (recC xs x y)]) ∧ Grown w w' := by
  have L := hid l
  have B := hid hb
  clear l hb _wx _wy
  have b0 : Hid (((w.alloc (.cells (byteCells xs) 25)).alloc (.cells (byteCells zeros24) 25)).heap[w.heap.size]? = some (.cells (byteCells xs) 25 (0, 0))) := hid (heap_kept (heap_new rfl))
  have b1 : Hid (((w.alloc (.cells (byteCells xs) 25)).alloc (.cells (byteCells zeros24) 25)).heap[w.heap.size + 1]? = some (.cells (byteCells zeros24) 25 (0, 0))) := hid (heap_new (by simp))
  have g0 : Hid (Grown w ((w.alloc (.cells (byteCells xs) 25)).alloc (.cells (byteCells zeros24) 25))) := hid (((Grown.refl w).alloc _ _).alloc _ _)
  cases ho : okB xs
  · skip
    have e1 : recF xs x y = zeros24 := by simp [recF, ho]
    have e2 : recC xs x y = 1 := by simp [recC, ho]
    rw [e1, e2]
    clear e1 e2
    go_enter Try.func23, Try.ntmps23
    go_wp2_with fail
    refine (l01Ok_any _ _ xs L.out _ (bytesAt_of_block b0.out)).mono ?_
    rintro e w1 ⟨rfl, hw⟩
    have hw' : ((w.alloc (.cells (byteCells xs) 25)).alloc (.cells (byteCells zeros24) 25)) = w1 := hw
    clear hw
    rw [hw'] at b0 b1 g0
    clear hw'
    go_wp2_with (first | (go_at_call 56; refine (l01Colour_any _ _).mono ?_; rintro e w' ⟨rfl, rfl⟩) | (refine wpList_build_to rfl 25 rfl built_flag ?_) | (refine wpList_store_bytes rfl 25 _ _ rfl _ zeros24 zeros24 rfl rfl _ 24 b1.out (by kernel_rfl) rfl rfl ?_))
    refine bodyPost_ret (results_bytes2 (by rfl) _ _ _ _ _ _ _ _ rfl rfl (heap_row_set b1.out) Try.underlying25 (by kernel_rfl) rfl) rfl ⟨rfl, ?_⟩
    exact Grown_setRow g0.out (by omega) _
  · cases hx : colourB x
    · skip
      have e1 : recF xs x y = zeros24 := by simp [recF, ho, hx]
      have e2 : recC xs x y = 2 := by simp [recC, ho, hx]
      rw [e1, e2]
      clear e1 e2
      go_enter Try.func23, Try.ntmps23
      go_wp2_with fail
      refine (l01Ok_any _ _ xs L.out _ (bytesAt_of_block b0.out)).mono ?_
      rintro e w1 ⟨rfl, hw⟩
      have hw' : ((w.alloc (.cells (byteCells xs) 25)).alloc (.cells (byteCells zeros24) 25)) = w1 := hw
      clear hw
      rw [hw'] at b0 b1 g0
      clear hw'
      go_wp2_with (first | (go_at_call 56; refine (l01Colour_any _ _).mono ?_; rintro e w' ⟨rfl, rfl⟩) | (refine wpList_build_to rfl 25 rfl built_flag ?_) | (refine wpList_store_bytes rfl 25 _ _ rfl _ zeros24 zeros24 rfl rfl _ 24 b1.out (by kernel_rfl) rfl rfl ?_))
      refine bodyPost_ret (results_bytes2 (by rfl) _ _ _ _ _ _ _ _ rfl rfl (heap_row_set b1.out) Try.underlying25 (by kernel_rfl) rfl) rfl ⟨rfl, ?_⟩
      exact Grown_setRow g0.out (by omega) _
    · cases hy : colourB y
      · skip
        have e1 : recF xs x y = zeros24 := by simp [recF, ho, hx, hy]
        have e2 : recC xs x y = 2 := by simp [recC, ho, hx, hy]
        rw [e1, e2]
        clear e1 e2
        go_enter Try.func23, Try.ntmps23
        go_wp2_with fail
        refine (l01Ok_any _ _ xs L.out _ (bytesAt_of_block b0.out)).mono ?_
        rintro e w1 ⟨rfl, hw⟩
        have hw' : ((w.alloc (.cells (byteCells xs) 25)).alloc (.cells (byteCells zeros24) 25)) = w1 := hw
        clear hw
        rw [hw'] at b0 b1 g0
        clear hw'
        go_wp2_with (first | (go_at_call 56; refine (l01Colour_any _ _).mono ?_; rintro e w' ⟨rfl, rfl⟩) | (refine wpList_build_to rfl 25 rfl built_flag ?_) | (refine wpList_store_bytes rfl 25 _ _ rfl _ zeros24 zeros24 rfl rfl _ 24 b1.out (by kernel_rfl) rfl rfl ?_))
        refine bodyPost_ret (results_bytes2 (by rfl) _ _ _ _ _ _ _ _ rfl rfl (heap_row_set b1.out) Try.underlying25 (by kernel_rfl) rfl) rfl ⟨rfl, ?_⟩
        exact Grown_setRow g0.out (by omega) _
      · obtain ⟨hx0, hx1⟩ := colourB_true hx
        obtain ⟨hy0, hy1⟩ := colourB_true hy
        have e1 : recF xs x y = recTo xs x y 24 := by simp [recF, ho, hx, hy]
        have e2 : recC xs x y = 0 := by simp [recC, ho, hx, hy]
        rw [e1, e2]
        clear e1 e2
        go_enter Try.func23, Try.ntmps23
        go_wp2_with fail
        refine (l01Ok_any _ _ xs L.out _ (bytesAt_of_block b0.out)).mono ?_
        rintro e w1 ⟨rfl, hw⟩
        have hw' : ((w.alloc (.cells (byteCells xs) 25)).alloc (.cells (byteCells zeros24) 25)) = w1 := hw
        clear hw
        rw [hw'] at b0 b1 g0
        clear hw'
        go_wp2_with (first | (go_at_call 56; refine (l01Colour_any _ _).mono ?_; rintro e w' ⟨rfl, rfl⟩))
        clear ho hx hy
        go_loopw [8] (fun i wr => ∃ k : Nat, k ≤ 24 ∧ i = .int .i64 k ∧ Hid (Grown w wr) ∧ Hid (wr.heap[w.heap.size]? = some (.cells (byteCells (recTo xs x y k)) 25 (0, 0))) ∧ Hid (wr.heap[w.heap.size + 1]? = some (.cells (byteCells zeros24) 25 (0, 0)))) (fun i _ => 24 - (intOf i).toNat)
        case atStart => exact ⟨0, Nat.zero_le _, rfl, g0, hid (by rw [recTo_zero]; exact b0.out), b1⟩
        case round =>
          obtain ⟨k, hk, rfl, hg, h0, h1⟩ := hrel
          by_cases hlt : k < 24
          · have hcell : wr.cell? ⟨w.heap.size, k, none⟩ = some (.int .u8 (xs.getD k 0)) := by
              rw [cell_of_row _ _ _ _ _ _ h0.out, byteCells_get _ k (by rw [recTo_length, L.out]; exact hlt), recTo_get]
            have hf : wr.frozen? ⟨w.heap.size, k, none⟩ = false := frozen_of_row _ _ _ _ _ h0.out
            obtain ⟨hv0, hv1⟩ := B.out.get k
            have HY := hid (recTo_yes xs x y k (by rw [L.out]; exact hlt))
            have HN := hid (recTo_no xs x y k)
            generalize xs.getD k 0 = v at *
            have hk0 : (0 : Int) ≤ k := by omega
            cases hv : (v == x)
            case true =>
              have HC := hid (HY.out (by simpa using hv))
              clear HY HN
              go_wp2_with fail
              go_roundw
              case rel => exact ⟨k + 1, by omega, by go_num, hid (hg.out.setCell (by dsimp only; omega) _), hid (by rw [HC.out]; exact heap_byte_set h0.out), hid (heap_stored (by dsimp only; omega) h1.out)⟩
              case measure => simp [intOf]; omega
            case false =>
              have HC := hid (HN.out (by simpa using hv))
              clear HY HN
              go_wp2_with fail
              go_roundw
              case rel => exact ⟨k + 1, by omega, by go_num, hg, hid (by rw [HC.out]; exact h0.out), h1⟩
              case measure => simp [intOf]; omega
          · have hk24 : k = 24 := by omega
            have H0 : Hid (wr.heap[w.heap.size]? = some (.cells (byteCells (recTo xs x y 24)) 25 (0, 0))) := by rw [hk24] at h0; exact h0
            have HL := hid (show (recTo xs x y 24).length = 24 by rw [recTo_length, L.out])
            clear hk24 h0
            go_wp2_with (first | (refine wpList_load_bytes rfl 25 _ rfl _ rfl _ (recTo xs x y 24) _ 24 H0.out Try.underlying25 (by kernel_rfl) HL.out ?_) | (refine wpList_store_bytes rfl 25 _ _ rfl _ (recTo xs x y 24) zeros24 rfl rfl _ 24 h1.out (by kernel_rfl) HL.out rfl ?_))
            refine bodyPost_ret (results_bytes2 (by rfl) _ _ _ _ _ _ _ _ rfl rfl (heap_row_set h1.out) Try.underlying25 (by kernel_rfl) HL.out) rfl ⟨rfl, ?_⟩
            exact Grown_setRow hg.out (by omega) _

set_option maxHeartbeats 1000000 in
theorem impl_RecolourFlag_any (xs : List Int) (l : xs.length = 24) (hb : Bytes xs) (x : Int) (_wx : (Lit.int .i64 x).wf = true) (y : Int) (_wy : (Lit.int .i64 y).wf = true) (w : World) :
    Calls Try.prog 24 #[.agg (byteCells xs), .int .i64 x, .int .i64 y] w fun e w' => e = .returned (.tuple #[.agg (byteCells (recF xs x y)), .int .i64 (recC xs x y)]) ∧ Grown w w' := by
  have L := hid l
  have B := hid hb
  clear l hb _wx _wy
  have b0 : Hid (((w.alloc (.cells (byteCells xs) 25)).alloc (.cells (byteCells zeros24) 25)).heap[w.heap.size]? = some (.cells (byteCells xs) 25 (0, 0))) := hid (heap_kept (heap_new rfl))
  have b1 : Hid (((w.alloc (.cells (byteCells xs) 25)).alloc (.cells (byteCells zeros24) 25)).heap[w.heap.size + 1]? = some (.cells (byteCells zeros24) 25 (0, 0))) := hid (heap_new (by simp))
  have g0 : Hid (Grown w ((w.alloc (.cells (byteCells xs) 25)).alloc (.cells (byteCells zeros24) 25))) := hid (((Grown.refl w).alloc _ _).alloc _ _)
  cases ho : okB xs
  · skip
    have e1 : recF xs x y = zeros24 := by simp [recF, ho]
    have e2 : recC xs x y = 1 := by simp [recC, ho]
    rw [e1, e2]
    clear e1 e2
    go_enter Try.func24, Try.ntmps24
    go_wp2_with (refine wpList_load_bytes rfl 25 _ rfl _ rfl _ xs _ 24 b0.out Try.underlying25 (by kernel_rfl) L.out ?_)
    refine (impl_ValidFlag_any xs L.out B.out _).mono ?_
    rintro e w1 ⟨rfl, g1⟩
    replace b0 := hid (heap_grown g1 b0.out)
    replace b1 := hid (heap_grown g1 b1.out)
    replace g0 := hid (Grown_trans g0.out g1)
    clear g1
    go_wp2_with (first | (go_at_call 57; refine (isColour_any _ _).mono ?_; rintro e w' ⟨rfl, rfl⟩) | (refine wpList_build_to rfl 25 rfl built_flag ?_) | (refine wpList_store_bytes rfl 25 _ _ rfl _ zeros24 zeros24 rfl rfl _ 24 b1.out (by kernel_rfl) rfl rfl ?_))
    refine bodyPost_ret (results_bytes2 (by rfl) _ _ _ _ _ _ _ _ rfl rfl (heap_row_set b1.out) Try.underlying25 (by kernel_rfl) rfl) rfl ⟨rfl, ?_⟩
    exact Grown_setRow g0.out (by omega) _
  · cases hx : colourB x
    · skip
      have e1 : recF xs x y = zeros24 := by simp [recF, ho, hx]
      have e2 : recC xs x y = 2 := by simp [recC, ho, hx]
      rw [e1, e2]
      clear e1 e2
      go_enter Try.func24, Try.ntmps24
      go_wp2_with (refine wpList_load_bytes rfl 25 _ rfl _ rfl _ xs _ 24 b0.out Try.underlying25 (by kernel_rfl) L.out ?_)
      refine (impl_ValidFlag_any xs L.out B.out _).mono ?_
      rintro e w1 ⟨rfl, g1⟩
      replace b0 := hid (heap_grown g1 b0.out)
      replace b1 := hid (heap_grown g1 b1.out)
      replace g0 := hid (Grown_trans g0.out g1)
      clear g1
      go_wp2_with (first | (go_at_call 57; refine (isColour_any _ _).mono ?_; rintro e w' ⟨rfl, rfl⟩) | (refine wpList_build_to rfl 25 rfl built_flag ?_) | (refine wpList_store_bytes rfl 25 _ _ rfl _ zeros24 zeros24 rfl rfl _ 24 b1.out (by kernel_rfl) rfl rfl ?_))
      refine bodyPost_ret (results_bytes2 (by rfl) _ _ _ _ _ _ _ _ rfl rfl (heap_row_set b1.out) Try.underlying25 (by kernel_rfl) rfl) rfl ⟨rfl, ?_⟩
      exact Grown_setRow g0.out (by omega) _
    · cases hy : colourB y
      · skip
        have e1 : recF xs x y = zeros24 := by simp [recF, ho, hx, hy]
        have e2 : recC xs x y = 2 := by simp [recC, ho, hx, hy]
        rw [e1, e2]
        clear e1 e2
        go_enter Try.func24, Try.ntmps24
        go_wp2_with (refine wpList_load_bytes rfl 25 _ rfl _ rfl _ xs _ 24 b0.out Try.underlying25 (by kernel_rfl) L.out ?_)
        refine (impl_ValidFlag_any xs L.out B.out _).mono ?_
        rintro e w1 ⟨rfl, g1⟩
        replace b0 := hid (heap_grown g1 b0.out)
        replace b1 := hid (heap_grown g1 b1.out)
        replace g0 := hid (Grown_trans g0.out g1)
        clear g1
        go_wp2_with (first | (go_at_call 57; refine (isColour_any _ _).mono ?_; rintro e w' ⟨rfl, rfl⟩) | (refine wpList_build_to rfl 25 rfl built_flag ?_) | (refine wpList_store_bytes rfl 25 _ _ rfl _ zeros24 zeros24 rfl rfl _ 24 b1.out (by kernel_rfl) rfl rfl ?_))
        refine bodyPost_ret (results_bytes2 (by rfl) _ _ _ _ _ _ _ _ rfl rfl (heap_row_set b1.out) Try.underlying25 (by kernel_rfl) rfl) rfl ⟨rfl, ?_⟩
        exact Grown_setRow g0.out (by omega) _
      · obtain ⟨hx0, hx1⟩ := colourB_true hx
        obtain ⟨hy0, hy1⟩ := colourB_true hy
        have e1 : recF xs x y = recTo xs x y 24 := by simp [recF, ho, hx, hy]
        have e2 : recC xs x y = 0 := by simp [recC, ho, hx, hy]
        rw [e1, e2]
        clear e1 e2
        go_enter Try.func24, Try.ntmps24
        go_wp2_with (refine wpList_load_bytes rfl 25 _ rfl _ rfl _ xs _ 24 b0.out Try.underlying25 (by kernel_rfl) L.out ?_)
        refine (impl_ValidFlag_any xs L.out B.out _).mono ?_
        rintro e w1 ⟨rfl, g1⟩
        replace b0 := hid (heap_grown g1 b0.out)
        replace b1 := hid (heap_grown g1 b1.out)
        replace g0 := hid (Grown_trans g0.out g1)
        clear g1
        go_wp2_with (first | (go_at_call 57; refine (isColour_any _ _).mono ?_; rintro e w' ⟨rfl, rfl⟩) | (refine wpList_load_bytes rfl 25 _ rfl _ rfl _ xs _ 24 b0.out Try.underlying25 (by kernel_rfl) L.out ?_))
        clear ho hx hy
        go_loopw [24] (fun i wr => ∃ k : Nat, k ≤ 24 ∧ i = .int .i64 k ∧ Hid (Grown w wr) ∧ Hid (wr.heap[w.heap.size]? = some (.cells (byteCells (recTo xs x y k)) 25 (0, 0))) ∧ Hid (wr.heap[w.heap.size + 1]? = some (.cells (byteCells zeros24) 25 (0, 0)))) (fun i _ => 24 - (intOf i).toNat)
        case atStart => exact ⟨0, Nat.zero_le _, rfl, g0, hid (by rw [recTo_zero]; exact b0.out), b1⟩
        case round =>
          obtain ⟨k, hk, rfl, hg, h0, h1⟩ := hrel
          by_cases hlt : k < 24
          · have hcell : wr.cell? ⟨w.heap.size, k, none⟩ = some (.int .u8 (xs.getD k 0)) := by
              rw [cell_of_row _ _ _ _ _ _ h0.out, byteCells_get _ k (by rw [recTo_length, L.out]; exact hlt), recTo_get]
            have hf : wr.frozen? ⟨w.heap.size, k, none⟩ = false := frozen_of_row _ _ _ _ _ h0.out
            have hi := run_index_bytes (P := Try.prog) Try.underlying25 Try.underlying5 (by kernel_rfl) xs k hlt L.out
            obtain ⟨hv0, hv1⟩ := B.out.get k
            have HY := hid (recTo_yes xs x y k (by rw [L.out]; exact hlt))
            have HN := hid (recTo_no xs x y k)
            generalize xs.getD k 0 = v at *
            have hk0 : (0 : Int) ≤ k := by omega
            cases hv : (v == x)
            case true =>
              have HC := hid (HY.out (by simpa using hv))
              clear HY HN
              go_wp2_with fail
              go_roundw
              case rel => exact ⟨k + 1, by omega, by go_num, hid (hg.out.setCell (by dsimp only; omega) _), hid (by rw [HC.out]; exact heap_byte_set h0.out), hid (heap_stored (by dsimp only; omega) h1.out)⟩
              case measure => simp [intOf]; omega
            case false =>
              have HC := hid (HN.out (by simpa using hv))
              clear HY HN
              go_wp2_with fail
              go_roundw
              case rel => exact ⟨k + 1, by omega, by go_num, hg, hid (by rw [HC.out]; exact h0.out), h1⟩
              case measure => simp [intOf]; omega
          · have hk24 : k = 24 := by omega
            have H0 : Hid (wr.heap[w.heap.size]? = some (.cells (byteCells (recTo xs x y 24)) 25 (0, 0))) := by rw [hk24] at h0; exact h0
            have HL := hid (show (recTo xs x y 24).length = 24 by rw [recTo_length, L.out])
            clear hk24 h0
            go_wp2_with (first | (refine wpList_load_bytes rfl 25 _ rfl _ rfl _ (recTo xs x y 24) _ 24 H0.out Try.underlying25 (by kernel_rfl) HL.out ?_) | (refine wpList_store_bytes rfl 25 _ _ rfl _ (recTo xs x y 24) zeros24 rfl rfl _ 24 h1.out (by kernel_rfl) HL.out rfl ?_))
            refine bodyPost_ret (results_bytes2 (by rfl) _ _ _ _ _ _ _ _ rfl rfl (heap_row_set h1.out) Try.underlying25 (by kernel_rfl) HL.out) rfl ⟨rfl, ?_⟩
            exact Grown_setRow hg.out (by omega) _

set_option maxHeartbeats 1000000 in
set_option linter.unusedVariables false in
theorem FnExactRecolourFlag_walk (a0 : List Int) (l0 : a0.length = 24) (w0 : Bytes a0) (a1 : Int) (w1 : (Lit.int .i64 a1).wf = true) (a2 : Int) (w2 : (Lit.int .i64 a2).wf = true) (w : World) :
    Calls Try.prog 6 #[.agg (byteCells a0), .int .i64 a1, .int .i64 a2] w fun e w' => e = .returned (.bool true) ∧ Grown w w' := by
  have hs := spec_RecolourFlag_any a0 l0 w0 a1 w1 a2 w2
  have hi := impl_RecolourFlag_any a0 l0 w0 a1 w1 a2 w2
  have hr0 : (recF a0 a1 a2).length = 24 := recF_length a0 l0 a1 a2
  generalize recF a0 a1 a2 = r0 at *
  generalize recC a0 a1 a2 = r1 at *
  have HS := hid hs
  have HI := hid hi
  clear hs hi
  have HL0 := hid l0
  clear l0 w0
  have HR0 := hid hr0
  clear hr0
  have b0 : Hid ((w.alloc (.cells (byteCells a0) 22)).heap[w.heap.size]? = some (.cells (byteCells a0) 22 (0, 0))) := hid (heap_new rfl)
  have gr : Hid (Grown w (w.alloc (.cells (byteCells a0) 22))) := hid ((Grown.refl _).alloc _ _)
  go_enter Try.func6, Try.ntmps6
  go_wp2_with (first | (refine wpList_load_bytes rfl 22 _ rfl _ rfl _ a0 _ 24 b0.out Try.underlying22 (by kernel_rfl) HL0.out ?_))
  refine (toFlag_any a0 HL0.out _).mono ?_
  rintro e W1 ⟨rfl, g1⟩
  replace b0 := hid (heap_grown g1 b0.out)
  replace gr := hid (Grown_trans gr.out g1)
  clear g1
  go_wp2_with (first | (refine wpList_load_bytes rfl 22 _ rfl _ rfl _ a0 _ 24 b0.out Try.underlying22 (by kernel_rfl) HL0.out ?_))
  refine (HS.out _).mono ?_
  rintro e W2 ⟨rfl, g2⟩
  replace b0 := hid (heap_grown g2 b0.out)
  replace gr := hid (Grown_trans gr.out g2)
  clear g2
  have ns0 := hid (heap_new (w := W2) (o := .cells (byteCells zeros24) 25) rfl)
  have ltb0 := lt_of_heap b0.out
  replace b0 := hid (heap_row_kept (g := W2.heap.size) (cs := byteCells r0) (by omega) (heap_kept (o := .cells (byteCells zeros24) 25) b0.out))
  clear ltb0
  have cs0 := hid (heap_row_set (cs := byteCells r0) ns0.out)
  have gl := gr.out.2.2
  replace gr := hid (Grown_setRow (gr.out.alloc (byteCells zeros24) 25) gl (byteCells r0))
  clear gl
  go_wp2_with (first | (refine wpList_store_bytes rfl 25 _ _ rfl _ r0 zeros24 rfl rfl _ 24 ns0.out (by kernel_rfl) HR0.out rfl ?_) | (refine wpList_load_bytes rfl 22 _ rfl _ rfl _ a0 _ 24 b0.out Try.underlying22 (by kernel_rfl) HL0.out ?_) | (refine wpList_load_bytes rfl 25 _ rfl _ rfl _ r0 _ 24 cs0.out Try.underlying25 (by kernel_rfl) HR0.out ?_))
  refine (toFlag_any a0 HL0.out _).mono ?_
  rintro e W3 ⟨rfl, g3⟩
  replace b0 := hid (heap_grown g3 b0.out)
  replace cs0 := hid (heap_grown g3 cs0.out)
  replace gr := hid (Grown_trans gr.out g3)
  clear g3
  go_wp2_with (first | (refine wpList_load_bytes rfl 22 _ rfl _ rfl _ a0 _ 24 b0.out Try.underlying22 (by kernel_rfl) HL0.out ?_) | (refine wpList_load_bytes rfl 25 _ rfl _ rfl _ r0 _ 24 cs0.out Try.underlying25 (by kernel_rfl) HR0.out ?_))
  refine (HI.out _).mono ?_
  rintro e W4 ⟨rfl, g4⟩
  replace b0 := hid (heap_grown g4 b0.out)
  replace cs0 := hid (heap_grown g4 cs0.out)
  replace gr := hid (Grown_trans gr.out g4)
  clear g4
  have ni0 := hid (heap_new (w := W4) (o := .cells (byteCells zeros24) 25) rfl)
  have ltb0 := lt_of_heap b0.out
  replace b0 := hid (heap_row_kept (g := W4.heap.size) (cs := byteCells r0) (by omega) (heap_kept (o := .cells (byteCells zeros24) 25) b0.out))
  clear ltb0
  have ltcs0 := lt_of_heap cs0.out
  replace cs0 := hid (heap_row_kept (g := W4.heap.size) (cs := byteCells r0) (by omega) (heap_kept (o := .cells (byteCells zeros24) 25) cs0.out))
  clear ltcs0
  have ci0 := hid (heap_row_set (cs := byteCells r0) ni0.out)
  have gl := gr.out.2.2
  replace gr := hid (Grown_setRow (gr.out.alloc (byteCells zeros24) 25) gl (byteCells r0))
  clear gl
  go_wp2_with (first | (refine wpList_store_bytes rfl 25 _ _ rfl _ r0 zeros24 rfl rfl _ 24 ni0.out (by kernel_rfl) HR0.out rfl ?_) | (refine wpList_load_bytes rfl 22 _ rfl _ rfl _ a0 _ 24 b0.out Try.underlying22 (by kernel_rfl) HL0.out ?_) | (refine wpList_load_bytes rfl 25 _ rfl _ rfl _ r0 _ 24 cs0.out Try.underlying25 (by kernel_rfl) HR0.out ?_) | (refine wpList_load_bytes rfl 25 _ rfl _ rfl _ r0 _ 24 ci0.out Try.underlying25 (by kernel_rfl) HR0.out ?_))
  refine (eqFlag_same r0 HR0.out _).mono ?_
  rintro e W5 ⟨rfl, g5⟩
  replace b0 := hid (heap_grown g5 b0.out)
  replace cs0 := hid (heap_grown g5 cs0.out)
  replace ci0 := hid (heap_grown g5 ci0.out)
  replace gr := hid (Grown_trans gr.out g5)
  clear g5
  go_wp2_with (first | (refine wpList_load_bytes rfl 22 _ rfl _ rfl _ a0 _ 24 b0.out Try.underlying22 (by kernel_rfl) HL0.out ?_) | (refine wpList_load_bytes rfl 25 _ rfl _ rfl _ r0 _ 24 cs0.out Try.underlying25 (by kernel_rfl) HR0.out ?_) | (refine wpList_load_bytes rfl 25 _ rfl _ rfl _ r0 _ 24 ci0.out Try.underlying25 (by kernel_rfl) HR0.out ?_))
  go_ret
  exact ⟨rfl, gr.out⟩
end Go.Proofs.Ytflolmjgkmmllab
