/- What is missing from a locker: the model's function. -/
import Derived.Test.YtaedompacmdacaaLockM
import Derived.Test.YtaedompacmdacaaLockN
namespace Go.Proofs.Ytaedompacmdacaa
open Go.RowKit
set_option maxHeartbeats 4000000 in
set_option maxRecDepth 100000 in
theorem spec_MissingFrom_any (xs ys : List Int) (lx : xs.length = 44) (ly : ys.length = 44) (fx : Fits .i16 xs) (fy : Fits .i16 ys) (w : World) :
    Calls Try.prog 23 #[.agg (kCells .i16 xs), .agg (kCells .i16 ys)] w fun e w' => e = .returned (.tuple #[.agg (kCells .i16 (missV xs ys)), .int .i64 (missC xs ys)]) ∧ Gr w w' := by
  obtain ⟨W0, hW0⟩ : ∃ W0, ((w.alloc (.cells (kCells .i16 xs) 28)).alloc (.cells (kCells .i16 ys) 28)).alloc lockerZ = W0 := ⟨_, rfl⟩
  have b0 : Hid (W0.heap[w.heap.size]? = some (.cells (kCells .i16 xs) 28 (0, 0))) := hid (by rw [← hW0]; exact heap_kept (heap_kept (heap_new rfl)))
  have b1 : Hid (W0.heap[w.heap.size + 1]? = some (.cells (kCells .i16 ys) 28 (0, 0))) := hid (by rw [← hW0]; exact heap_kept (heap_new (by simp)))
  have b2 : Hid (W0.heap[w.heap.size + 1 + 1]? = some (.cells (kCells .i16 zeros44) 28 (0, 0))) := hid (by rw [← hW0]; exact heap_new (by simp))
  have gr : Hid (Gr w W0) := hid (by rw [← hW0]; exact (((Gr.refl _).alloc _).alloc _).alloc _)
  have HX := hid (l04Ok_any w.heap.size _ xs lx fx W0 b0.out)
  have HY := hid (l04Ok_any (w.heap.size + 1) _ ys ly fy W0 b1.out)
  have HM := hid (fun (vx : lockB xs = true) (vy : lockB ys = true) => l04Missing_any w.heap.size (w.heap.size + 1) _ _ xs ys lx ly vx vy W0 b0.out b1.out)
  have HLC := hid (cmbL_length shrt xs ys)
  rw [← hW0] at HX HY HM b2 gr
  clear hW0 lx ly fx fy b0 b1
  cases hx : lockB xs with
  | false =>
    obtain ⟨eV, eC⟩ := miss_no (xs := xs) (ys := ys) (by rw [hx]; rfl)
    rw [eV, eC]
    rw [hx] at HX
    clear eV eC HM HY hx
    go_enter Try.func23, Try.ntmps23
    go_wp2_with fail
    refine HX.out.mono ?_
    rintro e w' ⟨rfl, rfl⟩
    go_wp2_with (first | (refine wpList_build_to rfl 28 rfl built_locker ?_) | (refine wpList_store_cells rfl 28 _ _ rfl _ (kCells .i16 zeros44) (kCells .i16 zeros44) rfl rfl _ 44 b2.out (by kernel_rfl) rfl rfl (kCells_one _ _) ?_))
    refine bodyPost_ret (results_struct2 (by rfl) _ _ _ _ _ _ _ rfl rfl (heap_row_set b2.out) Try.underlying28 rfl (by kernel_rfl)) rfl ⟨rfl, ?_⟩
    exact gr.out.setRow (by omega) _
  | true =>
    cases hy : lockB ys with
    | false =>
      obtain ⟨eV, eC⟩ := miss_no (xs := xs) (ys := ys) (by rw [hx, hy]; rfl)
      rw [eV, eC]
      rw [hx] at HX
      rw [hy] at HY
      clear eV eC HM hx hy
      go_enter Try.func23, Try.ntmps23
      go_wp2_with fail
      refine HX.out.mono ?_
      rintro e w' ⟨rfl, rfl⟩
      go_wp2_with fail
      refine HY.out.mono ?_
      rintro e w' ⟨rfl, rfl⟩
      go_wp2_with (first | (refine wpList_build_to rfl 28 rfl built_locker ?_) | (refine wpList_store_cells rfl 28 _ _ rfl _ (kCells .i16 zeros44) (kCells .i16 zeros44) rfl rfl _ 44 b2.out (by kernel_rfl) rfl rfl (kCells_one _ _) ?_))
      refine bodyPost_ret (results_struct2 (by rfl) _ _ _ _ _ _ _ rfl rfl (heap_row_set b2.out) Try.underlying28 rfl (by kernel_rfl)) rfl ⟨rfl, ?_⟩
      exact gr.out.setRow (by omega) _
    | true =>
      obtain ⟨eV, eC⟩ := miss_yes hx hy
      replace HM := hid (HM.out hx hy)
      rw [eV, eC]
      rw [hx] at HX
      rw [hy] at HY
      clear eV eC hx hy
      go_enter Try.func23, Try.ntmps23
      go_wp2_with fail
      refine HX.out.mono ?_
      rintro e w' ⟨rfl, rfl⟩
      go_wp2_with fail
      refine HY.out.mono ?_
      rintro e w' ⟨rfl, rfl⟩
      go_wp2_with fail
      refine HM.out.mono ?_
      rintro e w' ⟨rfl, g⟩
      have B2 := hid (g.heap b2.out)
      have G := hid (gr.out.trans g)
      clear g
      go_wp2_with (refine wpList_store_cells rfl 28 _ _ rfl _ (kCells .i16 (cmbL shrt xs ys)) (kCells .i16 zeros44) rfl rfl _ 44 B2.out (by kernel_rfl) (by rw [kCells_size, HLC.out]) rfl (kCells_one _ _) ?_)
      refine bodyPost_ret (results_struct2 (by rfl) _ _ _ _ _ _ _ rfl rfl (heap_row_set B2.out) Try.underlying28 rfl (by rw [kCells_size, HLC.out]; kernel_rfl)) rfl ⟨rfl, ?_⟩
      exact G.out.setRow (by omega) _
end Go.Proofs.Ytaedompacmdacaa
