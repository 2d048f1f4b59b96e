/- EvenLocker: the law's walk. -/
import Derived.Test.YtaedompacmdacaaLockF
namespace Go.Proofs.Ytaedompacmdacaa
open Go.RowKit
set_option maxRecDepth 100000 in
set_option maxHeartbeats 2000000 in
theorem FnExactEvenLocker_walk (s k b : Int) (w : World) :
    Calls Try.prog 4 #[.int .i64 s, .int .i64 k, .int .i64 b] w fun e w' => e = .returned (.bool true) ∧ Gr w w' := by
  have HSP := hid (spec_EvenLocker_any s k b)
  have HIM := hid (impl_EvenLocker_any s k b)
  have HR := hid (evV_length s k b)
  have HEQ := hid (eqLocker_same (evV s k b) (evV_length s k b))
  generalize evV s k b = R at *
  generalize evC s k b = c at *
  have gr := hid (Gr.refl w)
  go_enter Try.func4, Try.ntmps4
  go_wp2_with fail
  refine (HSP.out _).mono ?_
  rintro e W1 ⟨rfl, g1⟩
  replace gr := hid (gr.out.trans g1)
  clear g1
  have n1 : Hid ((W1.alloc lockerZ).heap[W1.heap.size]? = some (.cells (kCells .i16 zeros44) 28 (0, 0))) := hid (heap_new rfl)
  go_wp2_with (refine wpList_store_cells rfl 28 _ _ rfl _ (kCells .i16 R) (kCells .i16 zeros44) rfl rfl _ 44 n1.out (by kernel_rfl) (by rw [kCells_size, HR.out]) rfl (kCells_one _ _) ?_; generalize hW : World.setRow _ _ (kCells .i16 R) = V1)
  have m1 : Hid (V1.heap[W1.heap.size]? = some (.cells (kCells .i16 R) 28 (0, 0))) := hid (by rw [← hW]; exact heap_row_set n1.out)
  replace gr : Hid (Gr w V1) := hid (by rw [← hW]; exact (gr.out.alloc _).setRow gr.out.size _)
  clear hW n1
  refine (HIM.out _).mono ?_
  rintro e W2 ⟨rfl, g1⟩
  replace gr := hid (gr.out.trans g1)
  replace m1 := hid (g1.heap m1.out)
  clear g1
  have n2 : Hid ((W2.alloc lockerZ).heap[W2.heap.size]? = some (.cells (kCells .i16 zeros44) 28 (0, 0))) := hid (heap_new rfl)
  have hlt := lt_of_heap m1.out
  go_wp2_with (first | (refine wpList_store_cells rfl 28 _ _ rfl _ (kCells .i16 R) (kCells .i16 zeros44) rfl rfl _ 44 n2.out (by kernel_rfl) (by rw [kCells_size, HR.out]) rfl (kCells_one _ _) ?_; generalize hW : World.setRow _ _ (kCells .i16 R) = V2; have m2 : Hid (V2.heap[W2.heap.size]? = some (.cells (kCells .i16 R) 28 (0, 0))) := hid (by rw [← hW]; exact heap_row_set n2.out); replace m1 : Hid (V2.heap[W1.heap.size]? = some (.cells (kCells .i16 R) 28 (0, 0))) := hid (by rw [← hW]; exact heap_row_kept (by omega) (heap_kept m1.out)); replace gr : Hid (Gr w V2) := hid (by rw [← hW]; exact (gr.out.alloc _).setRow gr.out.size _); clear hW n2) | (refine wpList_load_struct rfl 28 (.tmp 9) rfl _ rfl _ (kCells .i16 R) _ m2.out Try.underlying28 rfl (by rw [kCells_size, HR.out]; kernel_rfl) ?_) | (refine wpList_load_struct rfl 28 (.tmp 7) rfl _ rfl _ (kCells .i16 R) _ m1.out Try.underlying28 rfl (by rw [kCells_size, HR.out]; kernel_rfl) ?_))
  refine (HEQ.out _).mono ?_
  rintro e W3 ⟨rfl, g1⟩
  replace gr := hid (gr.out.trans g1)
  clear g1 m1 m2
  go_wp2_with fail
  go_ret
  exact ⟨rfl, gr.out⟩
end Go.Proofs.Ytaedompacmdacaa
