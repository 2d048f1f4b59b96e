/- BlurFlag: the law's walk. -/
import Derived.Test.YtnghcchkiodalaaBlurI
namespace Go.Proofs.Ytnghcchkiodalaa
open Go.RowKit
set_option maxHeartbeats 1000000 in
set_option linter.unusedVariables false in
theorem FnExactBlurFlag_walk (a0 : List Int) (l0 : a0.length = 24) (w0 : Bytes a0) (w : World) :
    Calls Try.prog 3 #[.agg (byteCells a0)] w fun e w' => e = .returned (.bool true) ∧ Grown w w' := by
  have hs := spec_BlurFlag_any a0 l0 w0
  have hi := impl_BlurFlag_any a0 l0 w0
  have hr0 : (blurF a0).length = 6 := blurF_length a0
  generalize blurF a0 = r0 at *
  generalize okC a0 = r1 at *
  have HS := hid hs
  have HI := hid hi
  clear hs hi
  have HL0 := hid l0
  clear l0 w0
  have HR0 := hid hr0
  clear hr0
  have b0 : Hid ((w.alloc (.cells (byteCells a0) 22)).heap[w.heap.size]? = some (.cells (byteCells a0) 22 (0, 0))) := hid (heap_new rfl)
  have gr : Hid (Grown w (w.alloc (.cells (byteCells a0) 22))) := hid ((Grown.refl _).alloc _ _)
  go_enter Try.func3, Try.ntmps3
  go_wp2_with (first | (refine wpList_load_bytes rfl 22 _ rfl _ rfl _ a0 _ 24 b0.out Try.underlying22 (by kernel_rfl) HL0.out ?_))
  refine (toFlag_any a0 HL0.out _).mono ?_
  rintro e W1 ⟨rfl, g1⟩
  replace b0 := hid (heap_grown g1 b0.out)
  replace gr := hid (Grown_trans gr.out g1)
  clear g1
  go_wp2_with (first | (refine wpList_load_bytes rfl 22 _ rfl _ rfl _ a0 _ 24 b0.out Try.underlying22 (by kernel_rfl) HL0.out ?_))
  refine (HS.out _).mono ?_
  rintro e W2 ⟨rfl, g2⟩
  replace b0 := hid (heap_grown g2 b0.out)
  replace gr := hid (Grown_trans gr.out g2)
  clear g2
  have ns0 := hid (heap_new (w := W2) (o := .cells (byteCells zeros6) 23) rfl)
  have ltb0 := lt_of_heap b0.out
  replace b0 := hid (heap_row_kept (g := W2.heap.size) (cs := byteCells r0) (by omega) (heap_kept (o := .cells (byteCells zeros6) 23) b0.out))
  clear ltb0
  have cs0 := hid (heap_row_set (cs := byteCells r0) ns0.out)
  have gl := gr.out.size
  replace gr := hid (Grown_setRow (gr.out.alloc (byteCells zeros6) 23) gl (byteCells r0))
  clear gl
  go_wp2_with (first | (refine wpList_store_cells rfl 23 _ _ rfl _ (byteCells r0) (byteCells zeros6) rfl rfl _ 6 ns0.out (by kernel_rfl) (by simp only [kCells_size, byteCells_size]; exact HR0.out) rfl (bytes_one r0) ?_) | (refine wpList_load_bytes rfl 22 _ rfl _ rfl _ a0 _ 24 b0.out Try.underlying22 (by kernel_rfl) HL0.out ?_) | (refine wpList_load_cells rfl 23 _ rfl _ rfl _ (byteCells r0) _ 6 cs0.out Try.underlying23 (by kernel_rfl) (by simp only [kCells_size, byteCells_size]; exact HR0.out) ?_))
  refine (toFlag_any a0 HL0.out _).mono ?_
  rintro e W3 ⟨rfl, g3⟩
  replace b0 := hid (heap_grown g3 b0.out)
  replace cs0 := hid (heap_grown g3 cs0.out)
  replace gr := hid (Grown_trans gr.out g3)
  clear g3
  go_wp2_with (first | (refine wpList_load_bytes rfl 22 _ rfl _ rfl _ a0 _ 24 b0.out Try.underlying22 (by kernel_rfl) HL0.out ?_) | (refine wpList_load_cells rfl 23 _ rfl _ rfl _ (byteCells r0) _ 6 cs0.out Try.underlying23 (by kernel_rfl) (by simp only [kCells_size, byteCells_size]; exact HR0.out) ?_))
  refine (HI.out _).mono ?_
  rintro e W4 ⟨rfl, g4⟩
  replace b0 := hid (heap_grown g4 b0.out)
  replace cs0 := hid (heap_grown g4 cs0.out)
  replace gr := hid (Grown_trans gr.out g4)
  clear g4
  have ni0 := hid (heap_new (w := W4) (o := .cells (byteCells zeros6) 23) rfl)
  have ltb0 := lt_of_heap b0.out
  replace b0 := hid (heap_row_kept (g := W4.heap.size) (cs := byteCells r0) (by omega) (heap_kept (o := .cells (byteCells zeros6) 23) b0.out))
  clear ltb0
  have ltcs0 := lt_of_heap cs0.out
  replace cs0 := hid (heap_row_kept (g := W4.heap.size) (cs := byteCells r0) (by omega) (heap_kept (o := .cells (byteCells zeros6) 23) cs0.out))
  clear ltcs0
  have ci0 := hid (heap_row_set (cs := byteCells r0) ni0.out)
  have gl := gr.out.size
  replace gr := hid (Grown_setRow (gr.out.alloc (byteCells zeros6) 23) gl (byteCells r0))
  clear gl
  go_wp2_with (first | (refine wpList_store_cells rfl 23 _ _ rfl _ (byteCells r0) (byteCells zeros6) rfl rfl _ 6 ni0.out (by kernel_rfl) (by simp only [kCells_size, byteCells_size]; exact HR0.out) rfl (bytes_one r0) ?_) | (refine wpList_load_bytes rfl 22 _ rfl _ rfl _ a0 _ 24 b0.out Try.underlying22 (by kernel_rfl) HL0.out ?_) | (refine wpList_load_cells rfl 23 _ rfl _ rfl _ (byteCells r0) _ 6 cs0.out Try.underlying23 (by kernel_rfl) (by simp only [kCells_size, byteCells_size]; exact HR0.out) ?_) | (refine wpList_load_cells rfl 23 _ rfl _ rfl _ (byteCells r0) _ 6 ci0.out Try.underlying23 (by kernel_rfl) (by simp only [kCells_size, byteCells_size]; exact HR0.out) ?_))
  refine (eqByteA6_same r0 HR0.out _).mono ?_
  rintro e W5 ⟨rfl, g5⟩
  replace b0 := hid (heap_grown g5 b0.out)
  replace cs0 := hid (heap_grown g5 cs0.out)
  replace ci0 := hid (heap_grown g5 ci0.out)
  replace gr := hid (Grown_trans gr.out g5)
  clear g5
  go_wp2_with (first | (refine wpList_load_bytes rfl 22 _ rfl _ rfl _ a0 _ 24 b0.out Try.underlying22 (by kernel_rfl) HL0.out ?_) | (refine wpList_load_cells rfl 23 _ rfl _ rfl _ (byteCells r0) _ 6 cs0.out Try.underlying23 (by kernel_rfl) (by simp only [kCells_size, byteCells_size]; exact HR0.out) ?_) | (refine wpList_load_cells rfl 23 _ rfl _ rfl _ (byteCells r0) _ 6 ci0.out Try.underlying23 (by kernel_rfl) (by simp only [kCells_size, byteCells_size]; exact HR0.out) ?_))
  go_ret
  exact ⟨rfl, gr.out⟩
end Go.Proofs.Ytnghcchkiodalaa
