/- Covers: the law's walk. -/
import Derived.Test.YtaedompacmdacaaLockP
namespace Go.Proofs.Ytaedompacmdacaa
open Go.RowKit
set_option maxHeartbeats 4000000 in
set_option maxRecDepth 100000 in
theorem FnExactCovers_walk (xs ys : List Int) (lx : xs.length = 44) (ly : ys.length = 44) (fx : Fits .i16 xs) (fy : Fits .i16 ys) (w : World) :
    Calls Try.prog 7 #[.agg (kCells .i16 xs), .agg (kCells .i16 ys)] w fun e w' => e = .returned (.bool true) ∧ Gr w w' := by
  have HSP := hid (spec_Covers_any xs ys lx ly fx fy)
  have HIM := hid (impl_Covers_any xs ys lx ly fx fy)
  have HTX := hid (toLocker_any xs lx)
  have HTY := hid (toLocker_any ys ly)
  have LX := hid lx
  have LY := hid ly
  generalize covV xs ys = r at *
  generalize missC xs ys = c at *
  clear lx ly fx fy
  have b0 : Hid (((w.alloc (.cells (kCells .i16 xs) 26)).alloc (.cells (kCells .i16 ys) 26)).heap[w.heap.size]? = some (.cells (kCells .i16 xs) 26 (0, 0))) := hid (heap_kept (heap_new rfl))
  have b1 : Hid (((w.alloc (.cells (kCells .i16 xs) 26)).alloc (.cells (kCells .i16 ys) 26)).heap[w.heap.size + 1]? = some (.cells (kCells .i16 ys) 26 (0, 0))) := hid (heap_new (by simp))
  have gr : Hid (Gr w ((w.alloc (.cells (kCells .i16 xs) 26)).alloc (.cells (kCells .i16 ys) 26))) := hid (((Gr.refl _).alloc _).alloc _)
  go_enter Try.func7, Try.ntmps7
  go_wp2_with fail
  refine wp_region_held_drew (S := fun V => V.heap[w.heap.size]? = some (.cells (kCells .i16 (xs)) 26 (0, 0)) ∧ V.heap[w.heap.size + 1]? = some (.cells (kCells .i16 (ys)) 26 (0, 0)) ∧ Gr w V) (by kernel_rfl) ⟨b0.out, b1.out, gr.out.drew⟩ (fun hH => ?_)
  have HH := hid hH
  clear hH
  refine wpAnyH_take (i := 0) (v := .agg (kCells .i16 (xs))) rfl (by kernel_rfl) (by kernel_rfl) (by kernel_rfl) (fun _ _ _ h => h) (yields_struct rfl 26 (.tmp 2) rfl (w.heap.size) rfl 26 _ _ (fun _ h => h.1) Try.underlying26 rfl (by rw [kCells_size, LX.out]; kernel_rfl)) HH.out ?_
  simp only [Act.put, List.setIfInBounds_toArray, List.set_cons_zero, List.set_cons_succ]
  refine wpAnyH_take (i := 2) (v := .agg (kCells .i16 (ys))) rfl (by kernel_rfl) (by kernel_rfl) (by kernel_rfl) (fun _ _ _ h => h) (yields_struct rfl 26 (.tmp 3) rfl (w.heap.size + 1) rfl 26 _ _ (fun _ h => h.2.1) Try.underlying26 rfl (by rw [kCells_size, LY.out]; kernel_rfl)) HH.out ?_
  simp only [Act.put, List.setIfInBounds_toArray, List.set_cons_zero, List.set_cons_succ]
  refine wpAnyH_ready (rs := [1]) (by kernel_rfl) (by simp) (AllReadyH.cons rfl (fun K hK => ?_) AllReadyH.nil)
  rw [if_pos (by rfl)]
  go_simp
  refine (HTX.out _).mono ?_
  rintro e V ⟨rfl, g⟩
  dsimp only
  refine hK.out _ _ ⟨g.heap HH.out.1, g.heap HH.out.2.1, HH.out.2.2.trans g⟩ (fun hH => ?_)
  clear HH hK K
  have HH := hid hH
  clear hH g
  refine wpAnyH_ready (rs := [3]) (by kernel_rfl) (by simp) (AllReadyH.cons rfl (fun K hK => ?_) AllReadyH.nil)
  rw [if_pos (by rfl)]
  go_simp
  refine (HTY.out _).mono ?_
  rintro e V ⟨rfl, g⟩
  dsimp only
  refine hK.out _ _ ⟨g.heap HH.out.1, g.heap HH.out.2.1, HH.out.2.2.trans g⟩ (fun hH => ?_)
  clear HH hK K
  have HH := hid hH
  clear hH g
  refine wpAnyH_ready (rs := [4]) (by kernel_rfl) (by simp) (AllReadyH.cons rfl (fun K hK => ?_) AllReadyH.nil)
  rw [if_pos (by rfl)]
  go_simp
  refine (HSP.out _).mono ?_
  rintro e V ⟨rfl, g⟩
  dsimp only
  refine hK.out _ _ ⟨g.heap HH.out.1, g.heap HH.out.2.1, HH.out.2.2.trans g⟩ (fun hH => ?_)
  clear HH hK K
  have HH := hid hH
  clear hH g
  refine wpAnyH_take (i := 5) (v := .tuple #[.bool r, .int .i64 c]) rfl (by kernel_rfl) (by kernel_rfl) (by kernel_rfl) (fun _ _ _ h => h) (Or.inl ⟨by rfl, fun _ _ => by first | rfl | (go_simp; done) | (go_simp; rfl)⟩) HH.out ?_
  simp only [Act.put, List.setIfInBounds_toArray, List.set_cons_zero, List.set_cons_succ]
  refine wpAnyH_take (i := 6) (v := .bool r) rfl (by kernel_rfl) (by kernel_rfl) (by kernel_rfl) (fun _ _ _ h => h) (Or.inl ⟨by rfl, fun _ _ => by first | rfl | (go_simp; done) | (go_simp; rfl)⟩) HH.out ?_
  simp only [Act.put, List.setIfInBounds_toArray, List.set_cons_zero, List.set_cons_succ]
  refine wpAnyH_take (i := 7) (v := .int .i64 c) rfl (by kernel_rfl) (by kernel_rfl) (by kernel_rfl) (fun _ _ _ h => h) (Or.inl ⟨by rfl, fun _ _ => by first | rfl | (go_simp; done) | (go_simp; rfl)⟩) HH.out ?_
  simp only [Act.put, List.setIfInBounds_toArray, List.set_cons_zero, List.set_cons_succ]
  refine wpAnyH_ready (rs := [8]) (by kernel_rfl) (by simp) (AllReadyH.cons rfl (fun K hK => ?_) AllReadyH.nil)
  rw [if_pos (by rfl)]
  go_simp
  refine hK.out _ _ HH.out (fun hH => ?_)
  clear hK K hH
  refine wpAnyH_ready (rs := [9]) (by kernel_rfl) (by simp) (AllReadyH.cons rfl (fun K hK => ?_) AllReadyH.nil)
  rw [if_pos (by rfl)]
  go_simp
  refine hK.out _ _ HH.out (fun hH => ?_)
  clear hK K hH
  refine wpAnyH_done (by kernel_rfl) ?_ _
  clear b0 b1 gr
  have b0 := hid HH.out.1
  have b1 := hid HH.out.2.1
  have gr := hid HH.out.2.2
  clear HH
  go_wp2_with fail
  refine wp_region_held_drew (S := fun V => V.heap[w.heap.size]? = some (.cells (kCells .i16 (xs)) 26 (0, 0)) ∧ V.heap[w.heap.size + 1]? = some (.cells (kCells .i16 (ys)) 26 (0, 0)) ∧ Gr w V) (by kernel_rfl) ⟨b0.out, b1.out, gr.out.drew⟩ (fun hH => ?_)
  have HH := hid hH
  clear hH
  refine wpAnyH_take (i := 0) (v := .agg (kCells .i16 (xs))) rfl (by kernel_rfl) (by kernel_rfl) (by kernel_rfl) (fun _ _ _ h => h) (yields_struct rfl 26 (.tmp 2) rfl (w.heap.size) rfl 26 _ _ (fun _ h => h.1) Try.underlying26 rfl (by rw [kCells_size, LX.out]; kernel_rfl)) HH.out ?_
  simp only [Act.put, List.setIfInBounds_toArray, List.set_cons_zero, List.set_cons_succ]
  refine wpAnyH_take (i := 2) (v := .agg (kCells .i16 (ys))) rfl (by kernel_rfl) (by kernel_rfl) (by kernel_rfl) (fun _ _ _ h => h) (yields_struct rfl 26 (.tmp 3) rfl (w.heap.size + 1) rfl 26 _ _ (fun _ h => h.2.1) Try.underlying26 rfl (by rw [kCells_size, LY.out]; kernel_rfl)) HH.out ?_
  simp only [Act.put, List.setIfInBounds_toArray, List.set_cons_zero, List.set_cons_succ]
  refine wpAnyH_ready (rs := [1]) (by kernel_rfl) (by simp) (AllReadyH.cons rfl (fun K hK => ?_) AllReadyH.nil)
  rw [if_pos (by rfl)]
  go_simp
  refine (HTX.out _).mono ?_
  rintro e V ⟨rfl, g⟩
  dsimp only
  refine hK.out _ _ ⟨g.heap HH.out.1, g.heap HH.out.2.1, HH.out.2.2.trans g⟩ (fun hH => ?_)
  clear HH hK K
  have HH := hid hH
  clear hH g
  refine wpAnyH_ready (rs := [3]) (by kernel_rfl) (by simp) (AllReadyH.cons rfl (fun K hK => ?_) AllReadyH.nil)
  rw [if_pos (by rfl)]
  go_simp
  refine (HTY.out _).mono ?_
  rintro e V ⟨rfl, g⟩
  dsimp only
  refine hK.out _ _ ⟨g.heap HH.out.1, g.heap HH.out.2.1, HH.out.2.2.trans g⟩ (fun hH => ?_)
  clear HH hK K
  have HH := hid hH
  clear hH g
  refine wpAnyH_ready (rs := [4]) (by kernel_rfl) (by simp) (AllReadyH.cons rfl (fun K hK => ?_) AllReadyH.nil)
  rw [if_pos (by rfl)]
  go_simp
  refine (HIM.out _).mono ?_
  rintro e V ⟨rfl, g⟩
  dsimp only
  refine hK.out _ _ ⟨g.heap HH.out.1, g.heap HH.out.2.1, HH.out.2.2.trans g⟩ (fun hH => ?_)
  clear HH hK K
  have HH := hid hH
  clear hH g
  refine wpAnyH_take (i := 5) (v := .tuple #[.bool r, .int .i64 c]) rfl (by kernel_rfl) (by kernel_rfl) (by kernel_rfl) (fun _ _ _ h => h) (Or.inl ⟨by rfl, fun _ _ => by first | rfl | (go_simp; done) | (go_simp; rfl)⟩) HH.out ?_
  simp only [Act.put, List.setIfInBounds_toArray, List.set_cons_zero, List.set_cons_succ]
  refine wpAnyH_take (i := 6) (v := .bool r) rfl (by kernel_rfl) (by kernel_rfl) (by kernel_rfl) (fun _ _ _ h => h) (Or.inl ⟨by rfl, fun _ _ => by first | rfl | (go_simp; done) | (go_simp; rfl)⟩) HH.out ?_
  simp only [Act.put, List.setIfInBounds_toArray, List.set_cons_zero, List.set_cons_succ]
  refine wpAnyH_take (i := 7) (v := .int .i64 c) rfl (by kernel_rfl) (by kernel_rfl) (by kernel_rfl) (fun _ _ _ h => h) (Or.inl ⟨by rfl, fun _ _ => by first | rfl | (go_simp; done) | (go_simp; rfl)⟩) HH.out ?_
  simp only [Act.put, List.setIfInBounds_toArray, List.set_cons_zero, List.set_cons_succ]
  refine wpAnyH_ready (rs := [8]) (by kernel_rfl) (by simp) (AllReadyH.cons rfl (fun K hK => ?_) AllReadyH.nil)
  rw [if_pos (by rfl)]
  go_simp
  refine hK.out _ _ HH.out (fun hH => ?_)
  clear hK K hH
  refine wpAnyH_ready (rs := [9]) (by kernel_rfl) (by simp) (AllReadyH.cons rfl (fun K hK => ?_) AllReadyH.nil)
  rw [if_pos (by rfl)]
  go_simp
  refine hK.out _ _ HH.out (fun hH => ?_)
  clear hK K hH
  refine wpAnyH_done (by kernel_rfl) ?_ _
  cases r <;> go_wp2_with fail
  all_goals
    go_ret
    exact ⟨rfl, HH.out.2.2⟩
end Go.Proofs.Ytaedompacmdacaa
