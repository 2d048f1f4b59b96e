/- PlainFlag of the model, and the law's walk. -/
import Derived.Test.YtflolmjgkmmllaaPlain
namespace Go.Proofs.Ytflolmjgkmmllaa
open Go.RowKit
set_option maxHeartbeats 1000000 in
theorem spec_PlainFlag_any (c : Int) (_wc : (Lit.int .i64 c).wf = true) (w : World) :
    Calls Try.prog 27 #[.int .i64 c] w fun e w' => e = .returned (.tuple #[.agg (byteCells (plainF c)), .int .i64 (plainC c)]) ∧ Grown w w' := by
  have b0 : Hid ((((w.alloc (.cells (byteCells zeros24) 32)).alloc (.cells (byteCells zeros24) 32)).setRow (w.heap.size + 1) (byteCells zeros24)).heap[w.heap.size]? = some (.cells (byteCells zeros24) 32 (0, 0))) := hid (heap_row_kept (by omega) (heap_kept (heap_new rfl)))
  have b1 : Hid ((((w.alloc (.cells (byteCells zeros24) 32)).alloc (.cells (byteCells zeros24) 32)).setRow (w.heap.size + 1) (byteCells zeros24)).heap[w.heap.size + 1]? = some (.cells (byteCells zeros24) 32 (0, 0))) := hid (heap_row_set (heap_new (by simp)))
  have gr : Hid (Grown w (((w.alloc (.cells (byteCells zeros24) 32)).alloc (.cells (byteCells zeros24) 32)).setRow (w.heap.size + 1) (byteCells zeros24))) := hid (Grown_setRow (((Grown.refl _).alloc _ _).alloc _ _) (by omega) _)
  have z0 := hid (heap_new (w := w.alloc (.cells (byteCells zeros24) 32)) (o := .cells (byteCells zeros24) 32) (n := w.heap.size + 1) (by simp))
  clear _wc
  cases hc : colourB c
  · have e1 : plainF c = zeros24 := by simp [plainF, hc]
    have e2 : plainC c = 2 := by simp [plainC, hc]
    rw [e1, e2]
    clear e1 e2
    go_enter Try.func27, Try.ntmps27
    go_wp2_with (first | (go_at_call 63; refine (l01Colour_any _ _).mono ?_; rintro e w' ⟨rfl, rfl⟩) | (refine wpList_build_to rfl 32 rfl built_flag ?_) | (refine wpList_load_bytes rfl 32 _ rfl _ rfl _ zeros24 _ 24 b1.out Try.underlying32 (by kernel_rfl) rfl ?_) | (refine wpList_store_bytes rfl 32 _ _ rfl _ zeros24 zeros24 rfl rfl _ 24 b0.out (by kernel_rfl) rfl rfl ?_) | (refine wpList_store_bytes rfl 32 _ _ rfl _ zeros24 zeros24 rfl rfl _ 24 z0.out (by kernel_rfl) rfl rfl ?_))
    refine bodyPost_ret (results_bytes2 (by rfl) _ _ _ _ _ _ _ _ rfl rfl (heap_row_set b0.out) Try.underlying32 (by kernel_rfl) rfl) rfl ⟨rfl, ?_⟩
    exact Grown_setRow gr.out (by omega) _
  · obtain ⟨hc0, hc1⟩ := colourB_true hc
    have e1 : plainF c = (List.range 24).map (fun _ => c) := by unfold plainF; rw [hc]; rfl
    have e2 : plainC c = 0 := by simp [plainC, hc]
    rw [e1, e2]
    clear e1 e2
    go_enter Try.func27, Try.ntmps27
    go_wp2_with (first | (go_at_call 63; refine (l01Colour_any _ _).mono ?_; rintro e w' ⟨rfl, rfl⟩) | (refine wpList_build_to rfl 32 rfl built_flag ?_) | (refine wpList_store_bytes rfl 32 _ _ rfl _ zeros24 zeros24 rfl rfl _ 24 z0.out (by kernel_rfl) rfl rfl ?_))
    clear hc z0
    go_loopw [5] (fun i wr => ∃ j : Nat, j ≤ 24 ∧ i = .int .i64 j ∧ Hid (Grown w wr) ∧ Hid (wr.heap[w.heap.size]? = some (.cells (byteCells zeros24) 32 (0, 0))) ∧ Hid (wr.heap[w.heap.size + 1]? = some (.cells (byteCells (fillTo 24 (fun _ => c) j)) 32 (0, 0)))) (fun i _ => 24 - (intOf i).toNat)
    case atStart => exact ⟨0, Nat.zero_le _, rfl, gr, b0, hid (by rw [fillTo_zero]; exact b1.out)⟩
    case round =>
      clear gr b0 b1
      obtain ⟨j, hj, rfl, gr, b0, b1⟩ := hrel
      by_cases hlt : j < 24
      · have hc1' : wr.cell? ⟨w.heap.size + 1, j, none⟩ = some (.int .u8 ((fillTo 24 (fun _ => c) j).getD j 0)) := by
          rw [cell_of_row _ _ _ _ _ _ b1.out]; exact byteCells_get _ j (by rw [fillTo_length _ _ _ hj]; exact hlt)
        have hf1 : wr.frozen? ⟨w.heap.size + 1, j, none⟩ = false := frozen_of_row _ _ _ _ _ b1.out
        have HSET := hid (fillTo_set 24 (fun _ => c) j hlt)
        generalize (fillTo 24 (fun _ => c) j).getD j 0 = y at *
        go_wp2_with fail
        go_roundw
        case rel => exact ⟨j + 1, by omega, by go_num, hid (gr.out.setCell (by dsimp only; omega) _), hid (heap_stored (by dsimp only; omega) b0.out), hid (by rw [← HSET.out]; exact heap_byte_set b1.out)⟩
        case measure => simp [intOf]; omega
      · have hj24 : j = 24 := by omega
        have H1 : Hid (wr.heap[w.heap.size + 1]? = some (.cells (byteCells ((List.range 24).map (fun _ => c))) 32 (0, 0))) := by rw [hj24, fillTo_all] at b1; exact b1
        have HL := hid (show ((List.range 24).map (fun _ => c)).length = 24 by simp)
        clear hj24 b1
        go_wp2_with (first | (refine wpList_load_bytes rfl 32 _ rfl _ rfl _ ((List.range 24).map (fun _ => c)) _ 24 H1.out Try.underlying32 (by kernel_rfl) HL.out ?_) | (refine wpList_store_bytes rfl 32 _ _ rfl _ ((List.range 24).map (fun _ => c)) zeros24 rfl rfl _ 24 b0.out (by kernel_rfl) HL.out rfl ?_))
        refine bodyPost_ret (results_bytes2 (by rfl) _ _ _ _ _ _ _ _ rfl rfl (heap_row_set b0.out) Try.underlying32 (by kernel_rfl) HL.out) rfl ⟨rfl, ?_⟩
        exact Grown_setRow gr.out (by omega) _

set_option maxHeartbeats 1000000 in
set_option linter.unusedVariables false in
theorem FnExactPlainFlag_walk (a0 : Int) (w0 : (Lit.int .i64 a0).wf = true) (w : World) :
    Calls Try.prog 5 #[.int .i64 a0] w fun e w' => e = .returned (.bool true) ∧ Grown w w' := by
  have hs := spec_PlainFlag_any a0 w0
  have hi := impl_PlainFlag_any a0 w0
  have hr0 : (plainF a0).length = 24 := plainF_length a0
  generalize plainF a0 = r0 at *
  generalize plainC a0 = r1 at *
  have HS := hid hs
  have HI := hid hi
  clear hs hi
  have HR0 := hid hr0
  clear hr0
  have gr := hid (Grown.refl w)
  go_enter Try.func5, Try.ntmps5
  go_wp2_with fail
  refine (HS.out _).mono ?_
  rintro e W1 ⟨rfl, g1⟩
  replace gr := hid (Grown_trans gr.out g1)
  clear g1
  have ns0 := hid (heap_new (w := W1) (o := .cells (byteCells zeros24) 32) rfl)
  have cs0 := hid (heap_row_set (cs := byteCells r0) ns0.out)
  have gl := gr.out.size
  replace gr := hid (Grown_setRow (gr.out.alloc (byteCells zeros24) 32) gl (byteCells r0))
  clear gl
  go_wp2_with (first | (refine wpList_store_bytes rfl 32 _ _ rfl _ r0 zeros24 rfl rfl _ 24 ns0.out (by kernel_rfl) HR0.out rfl ?_) | (refine wpList_load_bytes rfl 32 _ rfl _ rfl _ r0 _ 24 cs0.out Try.underlying32 (by kernel_rfl) HR0.out ?_))
  refine (HI.out _).mono ?_
  rintro e W2 ⟨rfl, g2⟩
  replace cs0 := hid (heap_grown g2 cs0.out)
  replace gr := hid (Grown_trans gr.out g2)
  clear g2
  have ni0 := hid (heap_new (w := W2) (o := .cells (byteCells zeros24) 32) rfl)
  have ltcs0 := lt_of_heap cs0.out
  replace cs0 := hid (heap_row_kept (g := W2.heap.size) (cs := byteCells r0) (by omega) (heap_kept (o := .cells (byteCells zeros24) 32) cs0.out))
  clear ltcs0
  have ci0 := hid (heap_row_set (cs := byteCells r0) ni0.out)
  have gl := gr.out.size
  replace gr := hid (Grown_setRow (gr.out.alloc (byteCells zeros24) 32) gl (byteCells r0))
  clear gl
  go_wp2_with (first | (refine wpList_store_bytes rfl 32 _ _ rfl _ r0 zeros24 rfl rfl _ 24 ni0.out (by kernel_rfl) HR0.out rfl ?_) | (refine wpList_load_bytes rfl 32 _ rfl _ rfl _ r0 _ 24 cs0.out Try.underlying32 (by kernel_rfl) HR0.out ?_) | (refine wpList_load_bytes rfl 32 _ rfl _ rfl _ r0 _ 24 ci0.out Try.underlying32 (by kernel_rfl) HR0.out ?_))
  refine (eqFlag_same r0 HR0.out _).mono ?_
  rintro e W3 ⟨rfl, g3⟩
  replace cs0 := hid (heap_grown g3 cs0.out)
  replace ci0 := hid (heap_grown g3 ci0.out)
  replace gr := hid (Grown_trans gr.out g3)
  clear g3
  go_wp2_with (first | (refine wpList_load_bytes rfl 32 _ rfl _ rfl _ r0 _ 24 cs0.out Try.underlying32 (by kernel_rfl) HR0.out ?_) | (refine wpList_load_bytes rfl 32 _ rfl _ rfl _ r0 _ 24 ci0.out Try.underlying32 (by kernel_rfl) HR0.out ?_))
  go_ret
  exact ⟨rfl, gr.out⟩
end Go.Proofs.Ytflolmjgkmmllaa
