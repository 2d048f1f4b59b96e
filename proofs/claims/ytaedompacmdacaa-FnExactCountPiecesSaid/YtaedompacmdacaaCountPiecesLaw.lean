/- CountPieces: the law's walk. -/
import Derived.Test.YtaedompacmdacaaLockC
namespace Go.Proofs.Ytaedompacmdacaa
open Go.RowKit
set_option maxRecDepth 100000 in
set_option maxHeartbeats 1000000 in
theorem FnExactCountPieces_walk (xs : List Int) (hl : xs.length = 44) (hf : Fits .i16 xs) (w : World) :
    Calls Try.prog 5 #[.agg (kCells .i16 xs)] w fun e w' => e = .returned (.bool true) ∧ Gr w w' := by
  have L := hid hl
  have HTO := hid (toLocker_any xs hl)
  have HSP := hid (spec_CountPieces_any xs hl hf)
  have HIM := hid (impl_CountPieces_any xs hl hf)
  clear hl hf
  generalize cntV xs = r at *
  generalize lockC xs = c at *
  have b0 : Hid ((w.alloc (.cells (kCells .i16 xs) 26)).heap[w.heap.size]? = some (.cells (kCells .i16 xs) 26 (0, 0))) := hid (heap_new rfl)
  have gr := hid ((Gr.refl w).alloc (.cells (kCells .i16 xs) 26))
  go_enter Try.func5, Try.ntmps5
  go_wp2_with (refine wpList_load_struct rfl 26 _ rfl _ rfl _ (kCells .i16 xs) _ b0.out Try.underlying26 rfl (by rw [kCells_size, L.out]; kernel_rfl) ?_)
  refine (HTO.out _).mono ?_
  rintro e W1 ⟨rfl, g1⟩
  replace b0 := hid (g1.heap b0.out)
  replace gr := hid (gr.out.trans g1)
  clear g1
  go_wp2_with fail
  refine (HSP.out _).mono ?_
  rintro e W2 ⟨rfl, g1⟩
  replace b0 := hid (g1.heap b0.out)
  replace gr := hid (gr.out.trans g1)
  clear g1
  go_wp2_with (refine wpList_load_struct rfl 26 _ rfl _ rfl _ (kCells .i16 xs) _ b0.out Try.underlying26 rfl (by rw [kCells_size, L.out]; kernel_rfl) ?_)
  refine (HTO.out _).mono ?_
  rintro e W3 ⟨rfl, g1⟩
  replace b0 := hid (g1.heap b0.out)
  replace gr := hid (gr.out.trans g1)
  clear g1
  go_wp2_with fail
  refine (HIM.out _).mono ?_
  rintro e W4 ⟨rfl, g1⟩
  replace gr := hid (gr.out.trans g1)
  clear g1 b0
  go_wp2_with fail
  go_ret
  exact ⟨rfl, gr.out⟩
end Go.Proofs.Ytaedompacmdacaa
