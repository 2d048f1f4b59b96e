/- PaintCell: the two functions and the law's walk. -/
import Derived.Test.YtflolmjgkmmllaaCells
namespace Go.Proofs.Ytflolmjgkmmllaa
open Go.RowKit
def paintF (xs : List Int) (x y c : Int) : List Int := if okB xs && cellB x y && colourB c then xs.set (x + 6 * y).toNat c else zeros24
def paintC (xs : List Int) (x y c : Int) : Int := if okB xs then (if cellB x y && colourB c then 0 else 2) else 1
theorem paintF_length (xs : List Int) (l : xs.length = 24) (x y c : Int) : (paintF xs x y c).length = 24 := by
  unfold paintF; split <;> simp [zeros24, l]

set_option maxHeartbeats 1000000 in
theorem spec_PaintCell_any (xs : List Int) (l : xs.length = 24) (hb : Bytes xs) (x : Int) (_wx : (Lit.int .i64 x).wf = true) (y : Int) (_wy : (Lit.int .i64 y).wf = true) (c : Int) (_wc : (Lit.int .i64 c).wf = true) (w : World) :
    Calls Try.prog 40 #[.agg (byteCells xs), .int .i64 x, .int .i64 y, .int .i64 c] w fun e w' => e = .returned (.tuple #[.agg (byteCells (paintF xs x y c)), .int .i64 (paintC xs x y c)]) ∧ Grown w w' := by
  have L := hid l
  have B := hid hb
  clear l hb _wx _wy _wc
  have b0 : Hid (((w.alloc (.cells (byteCells xs) 32)).alloc (.cells (byteCells zeros24) 32)).heap[w.heap.size]? = some (.cells (byteCells xs) 32 (0, 0))) := hid (heap_kept (heap_new rfl))
  have b1 : Hid (((w.alloc (.cells (byteCells xs) 32)).alloc (.cells (byteCells zeros24) 32)).heap[w.heap.size + 1]? = some (.cells (byteCells zeros24) 32 (0, 0))) := hid (heap_new (by simp))
  have g0 : Hid (Grown w ((w.alloc (.cells (byteCells xs) 32)).alloc (.cells (byteCells zeros24) 32))) := hid (((Grown.refl w).alloc _ _).alloc _ _)
  cases ho : okB xs
  · skip
    have e1 : paintF xs x y c = zeros24 := by simp [paintF, ho]
    have e2 : paintC xs x y c = 1 := by simp [paintC, ho]
    rw [e1, e2]
    clear e1 e2
    go_enter Try.func40, Try.ntmps40
    go_wp2_with (first | (go_at_call 61; refine (l01Ok_any _ _ xs L.out _ (bytesAt_of_block b0.out)).mono ?_; rintro e w' ⟨rfl, rfl⟩) | (go_at_call 72; refine (l01Cell_any _ _ _).mono ?_; rintro e w' ⟨rfl, rfl⟩) | (go_at_call 63; refine (l01Colour_any _ _).mono ?_; rintro e w' ⟨rfl, rfl⟩) | (go_at_call 73; refine (l01Index_any _ _ ⟨by omega, by omega⟩ ⟨by omega, by omega⟩ _).mono ?_; rintro e w' ⟨rfl, rfl⟩) | (refine wpList_build_to rfl 32 rfl built_flag ?_) | (refine wpList_store_bytes rfl 32 _ _ rfl _ zeros24 zeros24 rfl rfl _ 24 b1.out (by kernel_rfl) rfl rfl ?_))
    refine bodyPost_ret (results_bytes2 (by rfl) _ _ _ _ _ _ _ _ rfl rfl (heap_row_set b1.out) Try.underlying32 (by kernel_rfl) rfl) rfl ⟨rfl, ?_⟩
    exact Grown_setRow g0.out (by omega) _
  · cases hc : cellB x y
    · skip
      have e1 : paintF xs x y c = zeros24 := by simp [paintF, ho, hc]
      have e2 : paintC xs x y c = 2 := by simp [paintC, ho, hc]
      rw [e1, e2]
      clear e1 e2
      go_enter Try.func40, Try.ntmps40
      go_wp2_with (first | (go_at_call 61; refine (l01Ok_any _ _ xs L.out _ (bytesAt_of_block b0.out)).mono ?_; rintro e w' ⟨rfl, rfl⟩) | (go_at_call 72; refine (l01Cell_any _ _ _).mono ?_; rintro e w' ⟨rfl, rfl⟩) | (go_at_call 63; refine (l01Colour_any _ _).mono ?_; rintro e w' ⟨rfl, rfl⟩) | (go_at_call 73; refine (l01Index_any _ _ ⟨by omega, by omega⟩ ⟨by omega, by omega⟩ _).mono ?_; rintro e w' ⟨rfl, rfl⟩) | (refine wpList_build_to rfl 32 rfl built_flag ?_) | (refine wpList_store_bytes rfl 32 _ _ rfl _ zeros24 zeros24 rfl rfl _ 24 b1.out (by kernel_rfl) rfl rfl ?_))
      refine bodyPost_ret (results_bytes2 (by rfl) _ _ _ _ _ _ _ _ rfl rfl (heap_row_set b1.out) Try.underlying32 (by kernel_rfl) rfl) rfl ⟨rfl, ?_⟩
      exact Grown_setRow g0.out (by omega) _
    · cases hcl : colourB c
      · skip
        have e1 : paintF xs x y c = zeros24 := by simp [paintF, ho, hc, hcl]
        have e2 : paintC xs x y c = 2 := by simp [paintC, ho, hc, hcl]
        rw [e1, e2]
        clear e1 e2
        go_enter Try.func40, Try.ntmps40
        go_wp2_with (first | (go_at_call 61; refine (l01Ok_any _ _ xs L.out _ (bytesAt_of_block b0.out)).mono ?_; rintro e w' ⟨rfl, rfl⟩) | (go_at_call 72; refine (l01Cell_any _ _ _).mono ?_; rintro e w' ⟨rfl, rfl⟩) | (go_at_call 63; refine (l01Colour_any _ _).mono ?_; rintro e w' ⟨rfl, rfl⟩) | (go_at_call 73; refine (l01Index_any _ _ ⟨by omega, by omega⟩ ⟨by omega, by omega⟩ _).mono ?_; rintro e w' ⟨rfl, rfl⟩) | (refine wpList_build_to rfl 32 rfl built_flag ?_) | (refine wpList_store_bytes rfl 32 _ _ rfl _ zeros24 zeros24 rfl rfl _ 24 b1.out (by kernel_rfl) rfl rfl ?_))
        refine bodyPost_ret (results_bytes2 (by rfl) _ _ _ _ _ _ _ _ rfl rfl (heap_row_set b1.out) Try.underlying32 (by kernel_rfl) rfl) rfl ⟨rfl, ?_⟩
        exact Grown_setRow g0.out (by omega) _
      · obtain ⟨⟨hx0, hx1⟩, hy0, hy1⟩ := cellB_true hc
        obtain ⟨hc0, hc1⟩ := colourB_true hcl
        obtain ⟨m, rfl⟩ := Int.eq_ofNat_of_zero_le hx0
        obtain ⟨n, rfl⟩ := Int.eq_ofNat_of_zero_le hy0
        have e1 : paintF xs m n c = xs.set (m + 6 * n) c := by simp [paintF, ho, hc, hcl]; congr 1
        have e2 : paintC xs m n c = 0 := by simp [paintC, ho, hc, hcl]
        rw [e1, e2]
        clear e1 e2
        have HSL := hid (show (xs.set (m + 6 * n) c).length = 24 by simp [L.out])
        go_enter Try.func40, Try.ntmps40
        go_wp2_with fail
        refine (l01Ok_any _ _ xs L.out _ (bytesAt_of_block b0.out)).mono ?_
        rintro e w1 ⟨rfl, hw⟩
        have hw' : ((w.alloc (.cells (byteCells xs) 32)).alloc (.cells (byteCells zeros24) 32)) = w1 := hw
        clear hw
        rw [hw'] at b0 b1 g0
        clear hw'
        have hcell : w1.cell? ⟨w.heap.size, m + 6 * n, none⟩ = some (.int .u8 (xs.getD (m + 6 * n) 0)) := by
          rw [cell_of_row _ _ _ _ _ _ b0.out]; exact byteCells_get xs _ (by rw [L.out]; omega)
        have hfz : w1.frozen? ⟨w.heap.size, m + 6 * n, none⟩ = false := frozen_of_row _ _ _ _ _ b0.out
        have B0 := hid (heap_byte_set (i := m + 6 * n) (x := c) b0.out)
        have B1 := hid (heap_stored (a := ⟨w.heap.size, m + 6 * n, none⟩) (v := .int .u8 c) (by dsimp only; omega) b1.out)
        have G0 := hid (g0.out.setCell (a := ⟨w.heap.size, m + 6 * n, none⟩) (by dsimp only; omega) (.int .u8 c))
        generalize xs.getD (m + 6 * n) 0 = v at *
        go_wp2_with (first | (go_at_call 61; refine (l01Ok_any _ _ xs L.out _ (bytesAt_of_block b0.out)).mono ?_; rintro e w' ⟨rfl, rfl⟩) | (go_at_call 72; refine (l01Cell_any _ _ _).mono ?_; rintro e w' ⟨rfl, rfl⟩) | (go_at_call 63; refine (l01Colour_any _ _).mono ?_; rintro e w' ⟨rfl, rfl⟩) | (go_at_call 73; refine (l01Index_any _ _ ⟨by omega, by omega⟩ ⟨by omega, by omega⟩ _).mono ?_; rintro e w' ⟨rfl, rfl⟩) | (refine wpList_load_bytes rfl 32 _ rfl _ rfl _ (xs.set (m + 6 * n) c) _ 24 B0.out Try.underlying32 (by kernel_rfl) HSL.out ?_) | (refine wpList_store_bytes rfl 32 _ _ rfl _ (xs.set (m + 6 * n) c) zeros24 rfl rfl _ 24 B1.out (by kernel_rfl) HSL.out rfl ?_))
        refine bodyPost_ret (results_bytes2 (by rfl) _ _ _ _ _ _ _ _ rfl rfl (heap_row_set B1.out) Try.underlying32 (by kernel_rfl) HSL.out) rfl ⟨rfl, ?_⟩
        exact Grown_setRow G0.out (by omega) _

set_option maxHeartbeats 1000000 in
theorem impl_PaintCell_any (xs : List Int) (l : xs.length = 24) (hb : Bytes xs) (x : Int) (_wx : (Lit.int .i64 x).wf = true) (y : Int) (_wy : (Lit.int .i64 y).wf = true) (c : Int) (_wc : (Lit.int .i64 c).wf = true) (w : World) :
    Calls Try.prog 41 #[.agg (byteCells xs), .int .i64 x, .int .i64 y, .int .i64 c] w fun e w' => e = .returned (.tuple #[.agg (byteCells (paintF xs x y c)), .int .i64 (paintC xs x y c)]) ∧ Grown w w' := by
  have L := hid l
  have B := hid hb
  clear l hb _wx _wy _wc
  have b0 : Hid (((w.alloc (.cells (byteCells xs) 32)).alloc (.cells (byteCells zeros24) 32)).heap[w.heap.size]? = some (.cells (byteCells xs) 32 (0, 0))) := hid (heap_kept (heap_new rfl))
  have b1 : Hid (((w.alloc (.cells (byteCells xs) 32)).alloc (.cells (byteCells zeros24) 32)).heap[w.heap.size + 1]? = some (.cells (byteCells zeros24) 32 (0, 0))) := hid (heap_new (by simp))
  have g0 : Hid (Grown w ((w.alloc (.cells (byteCells xs) 32)).alloc (.cells (byteCells zeros24) 32))) := hid (((Grown.refl w).alloc _ _).alloc _ _)
  cases ho : okB xs
  · skip
    have e1 : paintF xs x y c = zeros24 := by simp [paintF, ho]
    have e2 : paintC xs x y c = 1 := by simp [paintC, ho]
    rw [e1, e2]
    clear e1 e2
    go_enter Try.func41, Try.ntmps41
    go_wp2_with (refine wpList_load_bytes rfl 32 _ rfl _ rfl _ xs _ 24 b0.out Try.underlying32 (by kernel_rfl) L.out ?_)
    refine (impl_ValidFlag_any xs L.out B.out _).mono ?_
    rintro e w1 ⟨rfl, g1⟩
    replace b0 := hid (heap_grown g1 b0.out)
    replace b1 := hid (heap_grown g1 b1.out)
    replace g0 := hid (Grown_trans g0.out g1)
    clear g1
    go_wp2_with (first | (go_at_call 74; refine (isCell_any _ _ _).mono ?_; rintro e w' ⟨rfl, rfl⟩) | (go_at_call 62; refine (isColour_any _ _).mono ?_; rintro e w' ⟨rfl, rfl⟩) | (refine wpList_build_to rfl 32 rfl built_flag ?_) | (refine wpList_store_bytes rfl 32 _ _ rfl _ zeros24 zeros24 rfl rfl _ 24 b1.out (by kernel_rfl) rfl rfl ?_))
    refine bodyPost_ret (results_bytes2 (by rfl) _ _ _ _ _ _ _ _ rfl rfl (heap_row_set b1.out) Try.underlying32 (by kernel_rfl) rfl) rfl ⟨rfl, ?_⟩
    exact Grown_setRow g0.out (by omega) _
  · cases hc : cellB x y
    · skip
      have e1 : paintF xs x y c = zeros24 := by simp [paintF, ho, hc]
      have e2 : paintC xs x y c = 2 := by simp [paintC, ho, hc]
      rw [e1, e2]
      clear e1 e2
      go_enter Try.func41, Try.ntmps41
      go_wp2_with (refine wpList_load_bytes rfl 32 _ rfl _ rfl _ xs _ 24 b0.out Try.underlying32 (by kernel_rfl) L.out ?_)
      refine (impl_ValidFlag_any xs L.out B.out _).mono ?_
      rintro e w1 ⟨rfl, g1⟩
      replace b0 := hid (heap_grown g1 b0.out)
      replace b1 := hid (heap_grown g1 b1.out)
      replace g0 := hid (Grown_trans g0.out g1)
      clear g1
      go_wp2_with (first | (go_at_call 74; refine (isCell_any _ _ _).mono ?_; rintro e w' ⟨rfl, rfl⟩) | (go_at_call 62; refine (isColour_any _ _).mono ?_; rintro e w' ⟨rfl, rfl⟩) | (refine wpList_build_to rfl 32 rfl built_flag ?_) | (refine wpList_store_bytes rfl 32 _ _ rfl _ zeros24 zeros24 rfl rfl _ 24 b1.out (by kernel_rfl) rfl rfl ?_))
      refine bodyPost_ret (results_bytes2 (by rfl) _ _ _ _ _ _ _ _ rfl rfl (heap_row_set b1.out) Try.underlying32 (by kernel_rfl) rfl) rfl ⟨rfl, ?_⟩
      exact Grown_setRow g0.out (by omega) _
    · cases hcl : colourB c
      · skip
        have e1 : paintF xs x y c = zeros24 := by simp [paintF, ho, hc, hcl]
        have e2 : paintC xs x y c = 2 := by simp [paintC, ho, hc, hcl]
        rw [e1, e2]
        clear e1 e2
        go_enter Try.func41, Try.ntmps41
        go_wp2_with (refine wpList_load_bytes rfl 32 _ rfl _ rfl _ xs _ 24 b0.out Try.underlying32 (by kernel_rfl) L.out ?_)
        refine (impl_ValidFlag_any xs L.out B.out _).mono ?_
        rintro e w1 ⟨rfl, g1⟩
        replace b0 := hid (heap_grown g1 b0.out)
        replace b1 := hid (heap_grown g1 b1.out)
        replace g0 := hid (Grown_trans g0.out g1)
        clear g1
        go_wp2_with (first | (go_at_call 74; refine (isCell_any _ _ _).mono ?_; rintro e w' ⟨rfl, rfl⟩) | (go_at_call 62; refine (isColour_any _ _).mono ?_; rintro e w' ⟨rfl, rfl⟩) | (refine wpList_build_to rfl 32 rfl built_flag ?_) | (refine wpList_store_bytes rfl 32 _ _ rfl _ zeros24 zeros24 rfl rfl _ 24 b1.out (by kernel_rfl) rfl rfl ?_))
        refine bodyPost_ret (results_bytes2 (by rfl) _ _ _ _ _ _ _ _ rfl rfl (heap_row_set b1.out) Try.underlying32 (by kernel_rfl) rfl) rfl ⟨rfl, ?_⟩
        exact Grown_setRow g0.out (by omega) _
      · obtain ⟨⟨hx0, hx1⟩, hy0, hy1⟩ := cellB_true hc
        obtain ⟨hc0, hc1⟩ := colourB_true hcl
        obtain ⟨m, rfl⟩ := Int.eq_ofNat_of_zero_le hx0
        obtain ⟨n, rfl⟩ := Int.eq_ofNat_of_zero_le hy0
        have e1 : paintF xs m n c = xs.set (m + 6 * n) c := by simp [paintF, ho, hc, hcl]; congr 1
        have e2 : paintC xs m n c = 0 := by simp [paintC, ho, hc, hcl]
        rw [e1, e2]
        clear e1 e2
        have HSL := hid (show (xs.set (m + 6 * n) c).length = 24 by simp [L.out])
        go_enter Try.func41, Try.ntmps41
        go_wp2_with (refine wpList_load_bytes rfl 32 _ rfl _ rfl _ xs _ 24 b0.out Try.underlying32 (by kernel_rfl) L.out ?_)
        refine (impl_ValidFlag_any xs L.out B.out _).mono ?_
        rintro e w1 ⟨rfl, g1⟩
        replace b0 := hid (heap_grown g1 b0.out)
        replace b1 := hid (heap_grown g1 b1.out)
        replace g0 := hid (Grown_trans g0.out g1)
        clear g1
        have hcell : w1.cell? ⟨w.heap.size, m + 6 * n, none⟩ = some (.int .u8 (xs.getD (m + 6 * n) 0)) := by
          rw [cell_of_row _ _ _ _ _ _ b0.out]; exact byteCells_get xs _ (by rw [L.out]; omega)
        have hfz : w1.frozen? ⟨w.heap.size, m + 6 * n, none⟩ = false := frozen_of_row _ _ _ _ _ b0.out
        have B0 := hid (heap_byte_set (i := m + 6 * n) (x := c) b0.out)
        have B1 := hid (heap_stored (a := ⟨w.heap.size, m + 6 * n, none⟩) (v := .int .u8 c) (by dsimp only; omega) b1.out)
        have G0 := hid (g0.out.setCell (a := ⟨w.heap.size, m + 6 * n, none⟩) (by dsimp only; omega) (.int .u8 c))
        generalize xs.getD (m + 6 * n) 0 = v at *
        go_wp2_with (first | (go_at_call 74; refine (isCell_any _ _ _).mono ?_; rintro e w' ⟨rfl, rfl⟩) | (go_at_call 62; refine (isColour_any _ _).mono ?_; rintro e w' ⟨rfl, rfl⟩) | (refine wpList_load_bytes rfl 32 _ rfl _ rfl _ (xs.set (m + 6 * n) c) _ 24 B0.out Try.underlying32 (by kernel_rfl) HSL.out ?_) | (refine wpList_store_bytes rfl 32 _ _ rfl _ (xs.set (m + 6 * n) c) zeros24 rfl rfl _ 24 B1.out (by kernel_rfl) HSL.out rfl ?_))
        refine bodyPost_ret (results_bytes2 (by rfl) _ _ _ _ _ _ _ _ rfl rfl (heap_row_set B1.out) Try.underlying32 (by kernel_rfl) HSL.out) rfl ⟨rfl, ?_⟩
        exact Grown_setRow G0.out (by omega) _

set_option maxHeartbeats 1000000 in
set_option linter.unusedVariables false in
theorem FnExactPaintCell_walk (a0 : List Int) (l0 : a0.length = 24) (w0 : Bytes a0) (a1 : Int) (w1 : (Lit.int .i64 a1).wf = true) (a2 : Int) (w2 : (Lit.int .i64 a2).wf = true) (a3 : Int) (w3 : (Lit.int .i64 a3).wf = true) (w : World) :
    Calls Try.prog 10 #[.agg (byteCells a0), .int .i64 a1, .int .i64 a2, .int .i64 a3] w fun e w' => e = .returned (.bool true) ∧ Grown w w' := by
  have hs := spec_PaintCell_any a0 l0 w0 a1 w1 a2 w2 a3 w3
  have hi := impl_PaintCell_any a0 l0 w0 a1 w1 a2 w2 a3 w3
  have hr0 : (paintF a0 a1 a2 a3).length = 24 := paintF_length a0 l0 a1 a2 a3
  generalize paintF a0 a1 a2 a3 = r0 at *
  generalize paintC a0 a1 a2 a3 = r1 at *
  have HS := hid hs
  have HI := hid hi
  clear hs hi
  have HL0 := hid l0
  clear l0 w0
  have HR0 := hid hr0
  clear hr0
  have b0 : Hid ((w.alloc (.cells (byteCells a0) 31)).heap[w.heap.size]? = some (.cells (byteCells a0) 31 (0, 0))) := hid (heap_new rfl)
  have gr : Hid (Grown w (w.alloc (.cells (byteCells a0) 31))) := hid ((Grown.refl _).alloc _ _)
  go_enter Try.func10, Try.ntmps10
  go_wp2_with (first | (refine wpList_load_bytes rfl 31 _ rfl _ rfl _ a0 _ 24 b0.out Try.underlying31 (by kernel_rfl) HL0.out ?_))
  refine (toFlag_any a0 HL0.out _).mono ?_
  rintro e W1 ⟨rfl, g1⟩
  replace b0 := hid (heap_grown g1 b0.out)
  replace gr := hid (Grown_trans gr.out g1)
  clear g1
  go_wp2_with (first | (refine wpList_load_bytes rfl 31 _ rfl _ rfl _ a0 _ 24 b0.out Try.underlying31 (by kernel_rfl) HL0.out ?_))
  refine (HS.out _).mono ?_
  rintro e W2 ⟨rfl, g2⟩
  replace b0 := hid (heap_grown g2 b0.out)
  replace gr := hid (Grown_trans gr.out g2)
  clear g2
  have ns0 := hid (heap_new (w := W2) (o := .cells (byteCells zeros24) 32) rfl)
  have ltb0 := lt_of_heap b0.out
  replace b0 := hid (heap_row_kept (g := W2.heap.size) (cs := byteCells r0) (by omega) (heap_kept (o := .cells (byteCells zeros24) 32) b0.out))
  clear ltb0
  have cs0 := hid (heap_row_set (cs := byteCells r0) ns0.out)
  have gl := gr.out.2.2
  replace gr := hid (Grown_setRow (gr.out.alloc (byteCells zeros24) 32) gl (byteCells r0))
  clear gl
  go_wp2_with (first | (refine wpList_store_bytes rfl 32 _ _ rfl _ r0 zeros24 rfl rfl _ 24 ns0.out (by kernel_rfl) HR0.out rfl ?_) | (refine wpList_load_bytes rfl 31 _ rfl _ rfl _ a0 _ 24 b0.out Try.underlying31 (by kernel_rfl) HL0.out ?_) | (refine wpList_load_bytes rfl 32 _ rfl _ rfl _ r0 _ 24 cs0.out Try.underlying32 (by kernel_rfl) HR0.out ?_))
  refine (toFlag_any a0 HL0.out _).mono ?_
  rintro e W3 ⟨rfl, g3⟩
  replace b0 := hid (heap_grown g3 b0.out)
  replace cs0 := hid (heap_grown g3 cs0.out)
  replace gr := hid (Grown_trans gr.out g3)
  clear g3
  go_wp2_with (first | (refine wpList_load_bytes rfl 31 _ rfl _ rfl _ a0 _ 24 b0.out Try.underlying31 (by kernel_rfl) HL0.out ?_) | (refine wpList_load_bytes rfl 32 _ rfl _ rfl _ r0 _ 24 cs0.out Try.underlying32 (by kernel_rfl) HR0.out ?_))
  refine (HI.out _).mono ?_
  rintro e W4 ⟨rfl, g4⟩
  replace b0 := hid (heap_grown g4 b0.out)
  replace cs0 := hid (heap_grown g4 cs0.out)
  replace gr := hid (Grown_trans gr.out g4)
  clear g4
  have ni0 := hid (heap_new (w := W4) (o := .cells (byteCells zeros24) 32) rfl)
  have ltb0 := lt_of_heap b0.out
  replace b0 := hid (heap_row_kept (g := W4.heap.size) (cs := byteCells r0) (by omega) (heap_kept (o := .cells (byteCells zeros24) 32) b0.out))
  clear ltb0
  have ltcs0 := lt_of_heap cs0.out
  replace cs0 := hid (heap_row_kept (g := W4.heap.size) (cs := byteCells r0) (by omega) (heap_kept (o := .cells (byteCells zeros24) 32) cs0.out))
  clear ltcs0
  have ci0 := hid (heap_row_set (cs := byteCells r0) ni0.out)
  have gl := gr.out.2.2
  replace gr := hid (Grown_setRow (gr.out.alloc (byteCells zeros24) 32) gl (byteCells r0))
  clear gl
  go_wp2_with (first | (refine wpList_store_bytes rfl 32 _ _ rfl _ r0 zeros24 rfl rfl _ 24 ni0.out (by kernel_rfl) HR0.out rfl ?_) | (refine wpList_load_bytes rfl 31 _ rfl _ rfl _ a0 _ 24 b0.out Try.underlying31 (by kernel_rfl) HL0.out ?_) | (refine wpList_load_bytes rfl 32 _ rfl _ rfl _ r0 _ 24 cs0.out Try.underlying32 (by kernel_rfl) HR0.out ?_) | (refine wpList_load_bytes rfl 32 _ rfl _ rfl _ r0 _ 24 ci0.out Try.underlying32 (by kernel_rfl) HR0.out ?_))
  refine (eqFlag_same r0 HR0.out _).mono ?_
  rintro e W5 ⟨rfl, g5⟩
  replace b0 := hid (heap_grown g5 b0.out)
  replace cs0 := hid (heap_grown g5 cs0.out)
  replace ci0 := hid (heap_grown g5 ci0.out)
  replace gr := hid (Grown_trans gr.out g5)
  clear g5
  go_wp2_with (first | (refine wpList_load_bytes rfl 31 _ rfl _ rfl _ a0 _ 24 b0.out Try.underlying31 (by kernel_rfl) HL0.out ?_) | (refine wpList_load_bytes rfl 32 _ rfl _ rfl _ r0 _ 24 cs0.out Try.underlying32 (by kernel_rfl) HR0.out ?_) | (refine wpList_load_bytes rfl 32 _ rfl _ rfl _ r0 _ 24 ci0.out Try.underlying32 (by kernel_rfl) HR0.out ?_))
  go_ret
  exact ⟨rfl, gr.out⟩
end Go.Proofs.Ytflolmjgkmmllaa
