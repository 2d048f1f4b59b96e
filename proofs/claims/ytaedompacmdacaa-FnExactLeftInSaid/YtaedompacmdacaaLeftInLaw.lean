/- LeftIn: the law's walk. -/
import Derived.Test.YtaedompacmdacaaLockL
import Derived.Test.YtaedompacmdacaaHeldS
namespace Go.Proofs.Ytaedompacmdacaa
open Go.RowKit
set_option maxHeartbeats 8000000 in
set_option maxRecDepth 100000 in
theorem FnExactLeftIn_walk (xs ys : List Int) (lx : xs.length = 44) (ly : ys.length = 44) (fx : Fits .i16 xs) (fy : Fits .i16 ys) (w : World) :
    Calls Try.prog 8 #[.agg (kCells .i16 xs), .agg (kCells .i16 ys)] w fun e w' => e = .returned (.bool true) ∧ Gr w w' := by
  have HSP := hid (spec_LeftIn_any xs ys lx ly fx fy)
  have HIM := hid (impl_LeftIn_any xs ys lx ly fx fy)
  have HR := hid (leftV_length xs ys)
  have HEQ := hid (eqLocker_same (leftV xs ys) (leftV_length xs ys))
  have HTX := hid (toLocker_any xs lx)
  have HTY := hid (toLocker_any ys ly)
  have LX := hid lx
  have LY := hid ly
  generalize leftV xs ys = R at *
  generalize leftC xs ys = c at *
  clear lx ly fx fy
  have B0 : Hid (((w.alloc (.cells (kCells .i16 xs) 26)).alloc (.cells (kCells .i16 ys) 26)).heap[w.heap.size]? = some (.cells (kCells .i16 xs) 26 (0, 0))) := hid (heap_kept (heap_new rfl))
  have B1 : Hid (((w.alloc (.cells (kCells .i16 xs) 26)).alloc (.cells (kCells .i16 ys) 26)).heap[w.heap.size + 1]? = some (.cells (kCells .i16 ys) 26 (0, 0))) := hid (heap_new (by simp))
  have gr : Hid (Gr w ((w.alloc (.cells (kCells .i16 xs) 26)).alloc (.cells (kCells .i16 ys) 26))) := hid (((Gr.refl _).alloc _).alloc _)
  go_enter Try.func8, Try.ntmps8
  go_wp2_with fail
  refine Code.wp_mono (Q := Exit.then (fun a w' => ∃ g : Nat, a = ({ tmps := #[.agg (kCells .i16 xs), .agg (kCells .i16 ys), .pointer (some ⟨w.heap.size, 0, none⟩), .pointer (some ⟨w.heap.size + 1, 0, none⟩), .bool false, .pointer (some ⟨g, 0, none⟩), .int .i64 c, undef, undef, .tuple #[.agg (kCells .i16 R), .int .i64 c], .agg (kCells .i16 xs), .agg (kCells .i16 xs), .agg (kCells .i16 ys), .agg (kCells .i16 ys), .tuple #[.agg (kCells .i16 R), .int .i64 c], .agg (kCells .i16 R), .int .i64 c, undef, undef, undef, undef, undef, undef, undef, undef, undef, undef, undef, undef, undef, undef, undef, undef, undef], defers := [] } : Act) ∧ Hid (w'.heap[g]? = some (.cells (kCells .i16 R) 28 (0, 0)) ∧ w.heap.size + 1 < g ∧ w'.heap[w.heap.size]? = some (.cells (kCells .i16 xs) 26 (0, 0)) ∧ w'.heap[w.heap.size + 1]? = some (.cells (kCells .i16 ys) 26 (0, 0)) ∧ Gr w w')) (fun _ _ _ => False)) ?k1 ?r1
  case r1 =>
    refine wp_region_held_drew (S := fun V => V.heap[w.heap.size]? = some (.cells (kCells .i16 xs) 26 (0, 0)) ∧ V.heap[w.heap.size + 1]? = some (.cells (kCells .i16 ys) 26 (0, 0)) ∧ Gr w V) (by kernel_rfl) ⟨B0.out, B1.out, gr.out.drew⟩ (fun hH => ?_)
    clear B0 B1 gr
    have HH := hid hH
    clear hH
    refine wpAnyH_take (i := 0) (v := .agg (kCells .i16 xs)) rfl (by kernel_rfl) (by kernel_rfl) (by kernel_rfl) (fun _ _ _ h => h) (yields_struct rfl 26 (.tmp 2) rfl (w.heap.size) rfl 26 _ _ (fun _ h => h.1) Try.underlying26 rfl (by rw [kCells_size, LX.out]; kernel_rfl)) HH.out ?_
    simp only [Act.put, List.setIfInBounds_toArray, List.set_cons_zero, List.set_cons_succ]
    refine wpAnyH_take (i := 2) (v := .agg (kCells .i16 ys)) rfl (by kernel_rfl) (by kernel_rfl) (by kernel_rfl) (fun _ _ _ h => h) (yields_struct rfl 26 (.tmp 3) rfl (w.heap.size + 1) rfl 26 _ _ (fun _ h => h.2.1) Try.underlying26 rfl (by rw [kCells_size, LY.out]; kernel_rfl)) HH.out ?_
    simp only [Act.put, List.setIfInBounds_toArray, List.set_cons_zero, List.set_cons_succ]
    refine wpAnyH_ready (rs := [1, 8]) (by kernel_rfl) (by simp) (AllReadyH.cons rfl (fun K hK => ?_) (AllReadyH.cons rfl (fun K hK => ?_) AllReadyH.nil))
    · skip
      rw [if_pos (by rfl)]
      go_simp
      refine (HTX.out _).mono ?_
      rintro e V ⟨rfl, g⟩
      dsimp only
      refine hK.out _ _ ⟨g.heap HH.out.1, g.heap HH.out.2.1, HH.out.2.2.trans g⟩ (fun hH => ?_)
      clear HH hK K
      have HH := hid hH
      clear hH g
      refine wpAnyH_ready (rs := [3, 8]) (by kernel_rfl) (by simp) (AllReadyH.cons rfl (fun K hK => ?_) (AllReadyH.cons rfl (fun K hK => ?_) AllReadyH.nil))
      · skip
        rw [if_pos (by rfl)]
        go_simp
        refine (HTY.out _).mono ?_
        rintro e V ⟨rfl, g⟩
        dsimp only
        refine hK.out _ _ ⟨g.heap HH.out.1, g.heap HH.out.2.1, HH.out.2.2.trans g⟩ (fun hH => ?_)
        clear HH hK K
        have HH := hid hH
        clear hH g
        refine wpAnyH_ready (rs := [4, 8]) (by kernel_rfl) (by simp) (AllReadyH.cons rfl (fun K hK => ?_) (AllReadyH.cons rfl (fun K hK => ?_) AllReadyH.nil))
        · skip
          rw [if_pos (by rfl)]
          go_simp
          refine (HSP.out _).mono ?_
          rintro e V ⟨rfl, g⟩
          dsimp only
          refine hK.out _ _ ⟨g.heap HH.out.1, g.heap HH.out.2.1, HH.out.2.2.trans g⟩ (fun hH => ?_)
          clear HH hK K
          have HH := hid hH
          clear hH g
          refine wpAnyH_take (i := 5) (v := .tuple #[.agg (kCells .i16 R), .int .i64 c]) rfl (by kernel_rfl) (by kernel_rfl) (by kernel_rfl) (fun _ _ _ h => h) (Or.inl ⟨by rfl, fun _ _ => by first | rfl | (go_simp; done) | (go_simp; rfl)⟩) HH.out ?_
          simp only [Act.put, List.setIfInBounds_toArray, List.set_cons_zero, List.set_cons_succ]
          refine wpAnyH_take (i := 6) (v := .agg (kCells .i16 R)) rfl (by kernel_rfl) (by kernel_rfl) (by kernel_rfl) (fun _ _ _ h => h) (Or.inl ⟨by rfl, fun _ _ => by first | rfl | (go_simp; done) | (go_simp; rfl)⟩) HH.out ?_
          simp only [Act.put, List.setIfInBounds_toArray, List.set_cons_zero, List.set_cons_succ]
          refine wpAnyH_take (i := 7) (v := .int .i64 c) rfl (by kernel_rfl) (by kernel_rfl) (by kernel_rfl) (fun _ _ _ h => h) (Or.inl ⟨by rfl, fun _ _ => by first | rfl | (go_simp; done) | (go_simp; rfl)⟩) HH.out ?_
          simp only [Act.put, List.setIfInBounds_toArray, List.set_cons_zero, List.set_cons_succ]
          refine wpAnyH_ready (rs := [8]) (by kernel_rfl) (by simp) (AllReadyH.cons rfl (fun K hK => ?_) AllReadyH.nil)
          rw [if_pos (by rfl)]
          go_simp
          have hgt := lt_of_heap HH.out.2.1
          refine hK.out _ _ ⟨heap_kept HH.out.1, heap_kept HH.out.2.1, HH.out.2.2.alloc _⟩ (fun hH => ?_)
          have HZ : Hid (((V).alloc lockerZ).heap[V.heap.size]? = some (.cells (kCells .i16 zeros44) 28 (0, 0))) := hid (heap_new (by first | rfl | simp))
          have HGT : Hid (w.heap.size + 1 < V.heap.size ∧ True) := hid ⟨by first | exact hgt | omega, True.intro⟩
          clear HH hK K
          have HH := hid hH
          clear hH hgt
          refine wpAnyH_ready (rs := [9]) (by kernel_rfl) (by simp) (AllReadyH.cons rfl (fun K hK => ?_) AllReadyH.nil)
          rw [if_pos (by rfl)]
          refine wp_store_row 28 _ _ rfl _ (kCells .i16 R) rfl rfl 28 (kCells .i16 zeros44) HZ.out (by rw [kCells_size, HR.out]; kernel_rfl) (by rw [kCells_size, kCells_size, HR.out]; rfl) (kCells_one _ _) ?_
          simp only [Act.put, List.setIfInBounds_toArray, List.set_cons_zero, List.set_cons_succ]
          have HB := hid (heap_row_set (cs := kCells .i16 R) HZ.out)
          refine hK.out _ _ ⟨heap_row_kept (by have := HGT.out.1; omega) HH.out.1, heap_row_kept (by have := HGT.out.1; omega) HH.out.2.1, HH.out.2.2.setRow (by have := HGT.out.1; omega) _⟩ (fun hH => ?_)
          clear HH hK K HZ
          have HH := hid hH
          clear hH
          refine wpAnyH_ready (rs := [10]) (by kernel_rfl) (by simp) (AllReadyH.cons rfl (fun K hK => ?_) AllReadyH.nil)
          rw [if_pos (by rfl)]
          go_simp
          refine hK.out _ _ HH.out (fun hH => ?_)
          clear hK K hH
          refine wpAnyH_done (by kernel_rfl) ?_ _
          exact ⟨_, rfl, hid ⟨HB.out, HGT.out.1, HH.out⟩⟩
        · skip
          rw [if_pos (by rfl)]
          go_simp
          have hgt := lt_of_heap HH.out.2.1
          refine hK.out _ _ ⟨heap_kept HH.out.1, heap_kept HH.out.2.1, HH.out.2.2.alloc _⟩ (fun hH => ?_)
          have HZ : Hid (((V).alloc lockerZ).heap[V.heap.size]? = some (.cells (kCells .i16 zeros44) 28 (0, 0))) := hid (heap_new (by first | rfl | simp))
          have HGT : Hid (w.heap.size + 1 < V.heap.size ∧ True) := hid ⟨by first | exact hgt | omega, True.intro⟩
          clear HH hK K
          have HH := hid hH
          clear hH hgt
          refine wpAnyH_ready (rs := [4]) (by kernel_rfl) (by simp) (AllReadyH.cons rfl (fun K hK => ?_) AllReadyH.nil)
          rw [if_pos (by rfl)]
          go_simp
          refine (HSP.out _).mono ?_
          rintro e V ⟨rfl, g⟩
          dsimp only
          refine hK.out _ _ ⟨g.heap HH.out.1, g.heap HH.out.2.1, HH.out.2.2.trans g⟩ (fun hH => ?_)
          replace HZ := hid (g.heap HZ.out)
          clear HH hK K
          have HH := hid hH
          clear hH g
          refine wpAnyH_take (i := 5) (v := .tuple #[.agg (kCells .i16 R), .int .i64 c]) rfl (by kernel_rfl) (by kernel_rfl) (by kernel_rfl) (fun _ _ _ h => h) (Or.inl ⟨by rfl, fun _ _ => by first | rfl | (go_simp; done) | (go_simp; rfl)⟩) HH.out ?_
          simp only [Act.put, List.setIfInBounds_toArray, List.set_cons_zero, List.set_cons_succ]
          refine wpAnyH_take (i := 6) (v := .agg (kCells .i16 R)) rfl (by kernel_rfl) (by kernel_rfl) (by kernel_rfl) (fun _ _ _ h => h) (Or.inl ⟨by rfl, fun _ _ => by first | rfl | (go_simp; done) | (go_simp; rfl)⟩) HH.out ?_
          simp only [Act.put, List.setIfInBounds_toArray, List.set_cons_zero, List.set_cons_succ]
          refine wpAnyH_take (i := 7) (v := .int .i64 c) rfl (by kernel_rfl) (by kernel_rfl) (by kernel_rfl) (fun _ _ _ h => h) (Or.inl ⟨by rfl, fun _ _ => by first | rfl | (go_simp; done) | (go_simp; rfl)⟩) HH.out ?_
          simp only [Act.put, List.setIfInBounds_toArray, List.set_cons_zero, List.set_cons_succ]
          refine wpAnyH_ready (rs := [9]) (by kernel_rfl) (by simp) (AllReadyH.cons rfl (fun K hK => ?_) AllReadyH.nil)
          rw [if_pos (by rfl)]
          refine wp_store_row 28 _ _ rfl _ (kCells .i16 R) rfl rfl 28 (kCells .i16 zeros44) HZ.out (by rw [kCells_size, HR.out]; kernel_rfl) (by rw [kCells_size, kCells_size, HR.out]; rfl) (kCells_one _ _) ?_
          simp only [Act.put, List.setIfInBounds_toArray, List.set_cons_zero, List.set_cons_succ]
          have HB := hid (heap_row_set (cs := kCells .i16 R) HZ.out)
          refine hK.out _ _ ⟨heap_row_kept (by have := HGT.out.1; omega) HH.out.1, heap_row_kept (by have := HGT.out.1; omega) HH.out.2.1, HH.out.2.2.setRow (by have := HGT.out.1; omega) _⟩ (fun hH => ?_)
          clear HH hK K HZ
          have HH := hid hH
          clear hH
          refine wpAnyH_ready (rs := [10]) (by kernel_rfl) (by simp) (AllReadyH.cons rfl (fun K hK => ?_) AllReadyH.nil)
          rw [if_pos (by rfl)]
          go_simp
          refine hK.out _ _ HH.out (fun hH => ?_)
          clear hK K hH
          refine wpAnyH_done (by kernel_rfl) ?_ _
          exact ⟨_, rfl, hid ⟨HB.out, HGT.out.1, HH.out⟩⟩
      · skip
        rw [if_pos (by rfl)]
        go_simp
        have hgt := lt_of_heap HH.out.2.1
        refine hK.out _ _ ⟨heap_kept HH.out.1, heap_kept HH.out.2.1, HH.out.2.2.alloc _⟩ (fun hH => ?_)
        have HZ : Hid (((V).alloc lockerZ).heap[V.heap.size]? = some (.cells (kCells .i16 zeros44) 28 (0, 0))) := hid (heap_new (by first | rfl | simp))
        have HGT : Hid (w.heap.size + 1 < V.heap.size ∧ True) := hid ⟨by first | exact hgt | omega, True.intro⟩
        clear HH hK K
        have HH := hid hH
        clear hH hgt
        refine wpAnyH_ready (rs := [3]) (by kernel_rfl) (by simp) (AllReadyH.cons rfl (fun K hK => ?_) AllReadyH.nil)
        rw [if_pos (by rfl)]
        go_simp
        refine (HTY.out _).mono ?_
        rintro e V ⟨rfl, g⟩
        dsimp only
        refine hK.out _ _ ⟨g.heap HH.out.1, g.heap HH.out.2.1, HH.out.2.2.trans g⟩ (fun hH => ?_)
        replace HZ := hid (g.heap HZ.out)
        clear HH hK K
        have HH := hid hH
        clear hH g
        refine wpAnyH_ready (rs := [4]) (by kernel_rfl) (by simp) (AllReadyH.cons rfl (fun K hK => ?_) AllReadyH.nil)
        rw [if_pos (by rfl)]
        go_simp
        refine (HSP.out _).mono ?_
        rintro e V ⟨rfl, g⟩
        dsimp only
        refine hK.out _ _ ⟨g.heap HH.out.1, g.heap HH.out.2.1, HH.out.2.2.trans g⟩ (fun hH => ?_)
        replace HZ := hid (g.heap HZ.out)
        clear HH hK K
        have HH := hid hH
        clear hH g
        refine wpAnyH_take (i := 5) (v := .tuple #[.agg (kCells .i16 R), .int .i64 c]) rfl (by kernel_rfl) (by kernel_rfl) (by kernel_rfl) (fun _ _ _ h => h) (Or.inl ⟨by rfl, fun _ _ => by first | rfl | (go_simp; done) | (go_simp; rfl)⟩) HH.out ?_
        simp only [Act.put, List.setIfInBounds_toArray, List.set_cons_zero, List.set_cons_succ]
        refine wpAnyH_take (i := 6) (v := .agg (kCells .i16 R)) rfl (by kernel_rfl) (by kernel_rfl) (by kernel_rfl) (fun _ _ _ h => h) (Or.inl ⟨by rfl, fun _ _ => by first | rfl | (go_simp; done) | (go_simp; rfl)⟩) HH.out ?_
        simp only [Act.put, List.setIfInBounds_toArray, List.set_cons_zero, List.set_cons_succ]
        refine wpAnyH_take (i := 7) (v := .int .i64 c) rfl (by kernel_rfl) (by kernel_rfl) (by kernel_rfl) (fun _ _ _ h => h) (Or.inl ⟨by rfl, fun _ _ => by first | rfl | (go_simp; done) | (go_simp; rfl)⟩) HH.out ?_
        simp only [Act.put, List.setIfInBounds_toArray, List.set_cons_zero, List.set_cons_succ]
        refine wpAnyH_ready (rs := [9]) (by kernel_rfl) (by simp) (AllReadyH.cons rfl (fun K hK => ?_) AllReadyH.nil)
        rw [if_pos (by rfl)]
        refine wp_store_row 28 _ _ rfl _ (kCells .i16 R) rfl rfl 28 (kCells .i16 zeros44) HZ.out (by rw [kCells_size, HR.out]; kernel_rfl) (by rw [kCells_size, kCells_size, HR.out]; rfl) (kCells_one _ _) ?_
        simp only [Act.put, List.setIfInBounds_toArray, List.set_cons_zero, List.set_cons_succ]
        have HB := hid (heap_row_set (cs := kCells .i16 R) HZ.out)
        refine hK.out _ _ ⟨heap_row_kept (by have := HGT.out.1; omega) HH.out.1, heap_row_kept (by have := HGT.out.1; omega) HH.out.2.1, HH.out.2.2.setRow (by have := HGT.out.1; omega) _⟩ (fun hH => ?_)
        clear HH hK K HZ
        have HH := hid hH
        clear hH
        refine wpAnyH_ready (rs := [10]) (by kernel_rfl) (by simp) (AllReadyH.cons rfl (fun K hK => ?_) AllReadyH.nil)
        rw [if_pos (by rfl)]
        go_simp
        refine hK.out _ _ HH.out (fun hH => ?_)
        clear hK K hH
        refine wpAnyH_done (by kernel_rfl) ?_ _
        exact ⟨_, rfl, hid ⟨HB.out, HGT.out.1, HH.out⟩⟩
    · skip
      rw [if_pos (by rfl)]
      go_simp
      have hgt := lt_of_heap HH.out.2.1
      refine hK.out _ _ ⟨heap_kept HH.out.1, heap_kept HH.out.2.1, HH.out.2.2.alloc _⟩ (fun hH => ?_)
      have HZ : Hid (((((w.alloc (.cells (kCells .i16 xs) 26)).alloc (.cells (kCells .i16 ys) 26)).drew).alloc lockerZ).heap[w.heap.size + 1 + 1]? = some (.cells (kCells .i16 zeros44) 28 (0, 0))) := hid (heap_new (by first | rfl | simp))
      have HGT : Hid (w.heap.size + 1 < w.heap.size + 1 + 1 ∧ True) := hid ⟨by first | exact hgt | omega, True.intro⟩
      clear HH hK K
      have HH := hid hH
      clear hH hgt
      refine wpAnyH_ready (rs := [1]) (by kernel_rfl) (by simp) (AllReadyH.cons rfl (fun K hK => ?_) AllReadyH.nil)
      rw [if_pos (by rfl)]
      go_simp
      refine (HTX.out _).mono ?_
      rintro e V ⟨rfl, g⟩
      dsimp only
      refine hK.out _ _ ⟨g.heap HH.out.1, g.heap HH.out.2.1, HH.out.2.2.trans g⟩ (fun hH => ?_)
      replace HZ := hid (g.heap HZ.out)
      clear HH hK K
      have HH := hid hH
      clear hH g
      refine wpAnyH_ready (rs := [3]) (by kernel_rfl) (by simp) (AllReadyH.cons rfl (fun K hK => ?_) AllReadyH.nil)
      rw [if_pos (by rfl)]
      go_simp
      refine (HTY.out _).mono ?_
      rintro e V ⟨rfl, g⟩
      dsimp only
      refine hK.out _ _ ⟨g.heap HH.out.1, g.heap HH.out.2.1, HH.out.2.2.trans g⟩ (fun hH => ?_)
      replace HZ := hid (g.heap HZ.out)
      clear HH hK K
      have HH := hid hH
      clear hH g
      refine wpAnyH_ready (rs := [4]) (by kernel_rfl) (by simp) (AllReadyH.cons rfl (fun K hK => ?_) AllReadyH.nil)
      rw [if_pos (by rfl)]
      go_simp
      refine (HSP.out _).mono ?_
      rintro e V ⟨rfl, g⟩
      dsimp only
      refine hK.out _ _ ⟨g.heap HH.out.1, g.heap HH.out.2.1, HH.out.2.2.trans g⟩ (fun hH => ?_)
      replace HZ := hid (g.heap HZ.out)
      clear HH hK K
      have HH := hid hH
      clear hH g
      refine wpAnyH_take (i := 5) (v := .tuple #[.agg (kCells .i16 R), .int .i64 c]) rfl (by kernel_rfl) (by kernel_rfl) (by kernel_rfl) (fun _ _ _ h => h) (Or.inl ⟨by rfl, fun _ _ => by first | rfl | (go_simp; done) | (go_simp; rfl)⟩) HH.out ?_
      simp only [Act.put, List.setIfInBounds_toArray, List.set_cons_zero, List.set_cons_succ]
      refine wpAnyH_take (i := 6) (v := .agg (kCells .i16 R)) rfl (by kernel_rfl) (by kernel_rfl) (by kernel_rfl) (fun _ _ _ h => h) (Or.inl ⟨by rfl, fun _ _ => by first | rfl | (go_simp; done) | (go_simp; rfl)⟩) HH.out ?_
      simp only [Act.put, List.setIfInBounds_toArray, List.set_cons_zero, List.set_cons_succ]
      refine wpAnyH_take (i := 7) (v := .int .i64 c) rfl (by kernel_rfl) (by kernel_rfl) (by kernel_rfl) (fun _ _ _ h => h) (Or.inl ⟨by rfl, fun _ _ => by first | rfl | (go_simp; done) | (go_simp; rfl)⟩) HH.out ?_
      simp only [Act.put, List.setIfInBounds_toArray, List.set_cons_zero, List.set_cons_succ]
      refine wpAnyH_ready (rs := [9]) (by kernel_rfl) (by simp) (AllReadyH.cons rfl (fun K hK => ?_) AllReadyH.nil)
      rw [if_pos (by rfl)]
      refine wp_store_row 28 _ _ rfl _ (kCells .i16 R) rfl rfl 28 (kCells .i16 zeros44) HZ.out (by rw [kCells_size, HR.out]; kernel_rfl) (by rw [kCells_size, kCells_size, HR.out]; rfl) (kCells_one _ _) ?_
      simp only [Act.put, List.setIfInBounds_toArray, List.set_cons_zero, List.set_cons_succ]
      have HB := hid (heap_row_set (cs := kCells .i16 R) HZ.out)
      refine hK.out _ _ ⟨heap_row_kept (by have := HGT.out.1; omega) HH.out.1, heap_row_kept (by have := HGT.out.1; omega) HH.out.2.1, HH.out.2.2.setRow (by have := HGT.out.1; omega) _⟩ (fun hH => ?_)
      clear HH hK K HZ
      have HH := hid hH
      clear hH
      refine wpAnyH_ready (rs := [10]) (by kernel_rfl) (by simp) (AllReadyH.cons rfl (fun K hK => ?_) AllReadyH.nil)
      rw [if_pos (by rfl)]
      go_simp
      refine hK.out _ _ HH.out (fun hH => ?_)
      clear hK K hH
      refine wpAnyH_done (by kernel_rfl) ?_ _
      exact ⟨_, rfl, hid ⟨HB.out, HGT.out.1, HH.out⟩⟩
  case k1 =>
    intro e a W1 h
    cases e <;> first | exact h.elim | skip
    obtain ⟨g1, rfl, HF⟩ := h
    obtain ⟨BR, hg1, B0, B1, gr⟩ := HF.out
    clear HF
    have HG1 := hid hg1
    clear hg1
    replace B0 := hid B0
    replace B1 := hid B1
    replace BR := hid BR
    replace gr := hid gr
    go_wp2_with fail
    refine Code.wp_mono (Q := Exit.then (fun a w' => ∃ g : Nat, a = ({ tmps := #[.agg (kCells .i16 xs), .agg (kCells .i16 ys), .pointer (some ⟨w.heap.size, 0, none⟩), .pointer (some ⟨w.heap.size + 1, 0, none⟩), .bool false, .pointer (some ⟨g1, 0, none⟩), .int .i64 c, .pointer (some ⟨g, 0, none⟩), .int .i64 c, .tuple #[.agg (kCells .i16 R), .int .i64 c], .agg (kCells .i16 xs), .agg (kCells .i16 xs), .agg (kCells .i16 ys), .agg (kCells .i16 ys), .tuple #[.agg (kCells .i16 R), .int .i64 c], .agg (kCells .i16 R), .int .i64 c, .tuple #[.agg (kCells .i16 R), .int .i64 c], .agg (kCells .i16 xs), .agg (kCells .i16 xs), .agg (kCells .i16 ys), .agg (kCells .i16 ys), .tuple #[.agg (kCells .i16 R), .int .i64 c], .agg (kCells .i16 R), .int .i64 c, undef, undef, undef, undef, undef, undef, undef, undef, undef], defers := [] } : Act) ∧ Hid (w'.heap[g]? = some (.cells (kCells .i16 R) 28 (0, 0)) ∧ w.heap.size + 1 < g ∧ g1 < g ∧ w'.heap[w.heap.size]? = some (.cells (kCells .i16 xs) 26 (0, 0)) ∧ w'.heap[w.heap.size + 1]? = some (.cells (kCells .i16 ys) 26 (0, 0)) ∧ w'.heap[g1]? = some (.cells (kCells .i16 R) 28 (0, 0)) ∧ Gr w w')) (fun _ _ _ => False)) ?k2 ?r2
    case r2 =>
      refine wp_region_held_drew (S := fun V => V.heap[w.heap.size]? = some (.cells (kCells .i16 xs) 26 (0, 0)) ∧ V.heap[w.heap.size + 1]? = some (.cells (kCells .i16 ys) 26 (0, 0)) ∧ V.heap[g1]? = some (.cells (kCells .i16 R) 28 (0, 0)) ∧ Gr w V) (by kernel_rfl) ⟨B0.out, B1.out, BR.out, gr.out.drew⟩ (fun hH => ?_)
      clear B0 B1 gr BR
      have HH := hid hH
      clear hH
      refine wpAnyH_take (i := 0) (v := .agg (kCells .i16 xs)) rfl (by kernel_rfl) (by kernel_rfl) (by kernel_rfl) (fun _ _ _ h => h) (yields_struct rfl 26 (.tmp 2) rfl (w.heap.size) rfl 26 _ _ (fun _ h => h.1) Try.underlying26 rfl (by rw [kCells_size, LX.out]; kernel_rfl)) HH.out ?_
      simp only [Act.put, List.setIfInBounds_toArray, List.set_cons_zero, List.set_cons_succ]
      refine wpAnyH_take (i := 2) (v := .agg (kCells .i16 ys)) rfl (by kernel_rfl) (by kernel_rfl) (by kernel_rfl) (fun _ _ _ h => h) (yields_struct rfl 26 (.tmp 3) rfl (w.heap.size + 1) rfl 26 _ _ (fun _ h => h.2.1) Try.underlying26 rfl (by rw [kCells_size, LY.out]; kernel_rfl)) HH.out ?_
      simp only [Act.put, List.setIfInBounds_toArray, List.set_cons_zero, List.set_cons_succ]
      refine wpAnyH_ready (rs := [1, 8]) (by kernel_rfl) (by simp) (AllReadyH.cons rfl (fun K hK => ?_) (AllReadyH.cons rfl (fun K hK => ?_) AllReadyH.nil))
      · skip
        rw [if_pos (by rfl)]
        go_simp
        refine (HTX.out _).mono ?_
        rintro e V ⟨rfl, g⟩
        dsimp only
        refine hK.out _ _ ⟨g.heap HH.out.1, g.heap HH.out.2.1, g.heap HH.out.2.2.1, HH.out.2.2.2.trans g⟩ (fun hH => ?_)
        clear HH hK K
        have HH := hid hH
        clear hH g
        refine wpAnyH_ready (rs := [3, 8]) (by kernel_rfl) (by simp) (AllReadyH.cons rfl (fun K hK => ?_) (AllReadyH.cons rfl (fun K hK => ?_) AllReadyH.nil))
        · skip
          rw [if_pos (by rfl)]
          go_simp
          refine (HTY.out _).mono ?_
          rintro e V ⟨rfl, g⟩
          dsimp only
          refine hK.out _ _ ⟨g.heap HH.out.1, g.heap HH.out.2.1, g.heap HH.out.2.2.1, HH.out.2.2.2.trans g⟩ (fun hH => ?_)
          clear HH hK K
          have HH := hid hH
          clear hH g
          refine wpAnyH_ready (rs := [4, 8]) (by kernel_rfl) (by simp) (AllReadyH.cons rfl (fun K hK => ?_) (AllReadyH.cons rfl (fun K hK => ?_) AllReadyH.nil))
          · skip
            rw [if_pos (by rfl)]
            go_simp
            refine (HIM.out _).mono ?_
            rintro e V ⟨rfl, g⟩
            dsimp only
            refine hK.out _ _ ⟨g.heap HH.out.1, g.heap HH.out.2.1, g.heap HH.out.2.2.1, HH.out.2.2.2.trans g⟩ (fun hH => ?_)
            clear HH hK K
            have HH := hid hH
            clear hH g
            refine wpAnyH_take (i := 5) (v := .tuple #[.agg (kCells .i16 R), .int .i64 c]) rfl (by kernel_rfl) (by kernel_rfl) (by kernel_rfl) (fun _ _ _ h => h) (Or.inl ⟨by rfl, fun _ _ => by first | rfl | (go_simp; done) | (go_simp; rfl)⟩) HH.out ?_
            simp only [Act.put, List.setIfInBounds_toArray, List.set_cons_zero, List.set_cons_succ]
            refine wpAnyH_take (i := 6) (v := .agg (kCells .i16 R)) rfl (by kernel_rfl) (by kernel_rfl) (by kernel_rfl) (fun _ _ _ h => h) (Or.inl ⟨by rfl, fun _ _ => by first | rfl | (go_simp; done) | (go_simp; rfl)⟩) HH.out ?_
            simp only [Act.put, List.setIfInBounds_toArray, List.set_cons_zero, List.set_cons_succ]
            refine wpAnyH_take (i := 7) (v := .int .i64 c) rfl (by kernel_rfl) (by kernel_rfl) (by kernel_rfl) (fun _ _ _ h => h) (Or.inl ⟨by rfl, fun _ _ => by first | rfl | (go_simp; done) | (go_simp; rfl)⟩) HH.out ?_
            simp only [Act.put, List.setIfInBounds_toArray, List.set_cons_zero, List.set_cons_succ]
            refine wpAnyH_ready (rs := [8]) (by kernel_rfl) (by simp) (AllReadyH.cons rfl (fun K hK => ?_) AllReadyH.nil)
            rw [if_pos (by rfl)]
            go_simp
            have hgt := lt_of_heap HH.out.2.1
            have hgt0 := lt_of_heap HH.out.2.2.1
            refine hK.out _ _ ⟨heap_kept HH.out.1, heap_kept HH.out.2.1, heap_kept HH.out.2.2.1, HH.out.2.2.2.alloc _⟩ (fun hH => ?_)
            have HZ : Hid (((V).alloc lockerZ).heap[V.heap.size]? = some (.cells (kCells .i16 zeros44) 28 (0, 0))) := hid (heap_new (by first | rfl | simp))
            have HGT : Hid (w.heap.size + 1 < V.heap.size ∧ g1 < V.heap.size ∧ True) := hid ⟨by first | exact hgt | omega, by first | exact hgt0 | omega, True.intro⟩
            clear HH hK K
            have HH := hid hH
            clear hH hgt hgt0
            refine wpAnyH_ready (rs := [9]) (by kernel_rfl) (by simp) (AllReadyH.cons rfl (fun K hK => ?_) AllReadyH.nil)
            rw [if_pos (by rfl)]
            refine wp_store_row 28 _ _ rfl _ (kCells .i16 R) rfl rfl 28 (kCells .i16 zeros44) HZ.out (by rw [kCells_size, HR.out]; kernel_rfl) (by rw [kCells_size, kCells_size, HR.out]; rfl) (kCells_one _ _) ?_
            simp only [Act.put, List.setIfInBounds_toArray, List.set_cons_zero, List.set_cons_succ]
            have HB := hid (heap_row_set (cs := kCells .i16 R) HZ.out)
            refine hK.out _ _ ⟨heap_row_kept (by have := HGT.out.1; omega) HH.out.1, heap_row_kept (by have := HGT.out.1; omega) HH.out.2.1, heap_row_kept (by have := HGT.out.2.1; omega) HH.out.2.2.1, HH.out.2.2.2.setRow (by have := HGT.out.1; omega) _⟩ (fun hH => ?_)
            clear HH hK K HZ
            have HH := hid hH
            clear hH
            refine wpAnyH_ready (rs := [10]) (by kernel_rfl) (by simp) (AllReadyH.cons rfl (fun K hK => ?_) AllReadyH.nil)
            rw [if_pos (by rfl)]
            go_simp
            refine hK.out _ _ HH.out (fun hH => ?_)
            clear hK K hH
            refine wpAnyH_done (by kernel_rfl) ?_ _
            exact ⟨_, rfl, hid ⟨HB.out, HGT.out.1, HGT.out.2.1, HH.out⟩⟩
          · skip
            rw [if_pos (by rfl)]
            go_simp
            have hgt := lt_of_heap HH.out.2.1
            have hgt0 := lt_of_heap HH.out.2.2.1
            refine hK.out _ _ ⟨heap_kept HH.out.1, heap_kept HH.out.2.1, heap_kept HH.out.2.2.1, HH.out.2.2.2.alloc _⟩ (fun hH => ?_)
            have HZ : Hid (((V).alloc lockerZ).heap[V.heap.size]? = some (.cells (kCells .i16 zeros44) 28 (0, 0))) := hid (heap_new (by first | rfl | simp))
            have HGT : Hid (w.heap.size + 1 < V.heap.size ∧ g1 < V.heap.size ∧ True) := hid ⟨by first | exact hgt | omega, by first | exact hgt0 | omega, True.intro⟩
            clear HH hK K
            have HH := hid hH
            clear hH hgt hgt0
            refine wpAnyH_ready (rs := [4]) (by kernel_rfl) (by simp) (AllReadyH.cons rfl (fun K hK => ?_) AllReadyH.nil)
            rw [if_pos (by rfl)]
            go_simp
            refine (HIM.out _).mono ?_
            rintro e V ⟨rfl, g⟩
            dsimp only
            refine hK.out _ _ ⟨g.heap HH.out.1, g.heap HH.out.2.1, g.heap HH.out.2.2.1, HH.out.2.2.2.trans g⟩ (fun hH => ?_)
            replace HZ := hid (g.heap HZ.out)
            clear HH hK K
            have HH := hid hH
            clear hH g
            refine wpAnyH_take (i := 5) (v := .tuple #[.agg (kCells .i16 R), .int .i64 c]) rfl (by kernel_rfl) (by kernel_rfl) (by kernel_rfl) (fun _ _ _ h => h) (Or.inl ⟨by rfl, fun _ _ => by first | rfl | (go_simp; done) | (go_simp; rfl)⟩) HH.out ?_
            simp only [Act.put, List.setIfInBounds_toArray, List.set_cons_zero, List.set_cons_succ]
            refine wpAnyH_take (i := 6) (v := .agg (kCells .i16 R)) rfl (by kernel_rfl) (by kernel_rfl) (by kernel_rfl) (fun _ _ _ h => h) (Or.inl ⟨by rfl, fun _ _ => by first | rfl | (go_simp; done) | (go_simp; rfl)⟩) HH.out ?_
            simp only [Act.put, List.setIfInBounds_toArray, List.set_cons_zero, List.set_cons_succ]
            refine wpAnyH_take (i := 7) (v := .int .i64 c) rfl (by kernel_rfl) (by kernel_rfl) (by kernel_rfl) (fun _ _ _ h => h) (Or.inl ⟨by rfl, fun _ _ => by first | rfl | (go_simp; done) | (go_simp; rfl)⟩) HH.out ?_
            simp only [Act.put, List.setIfInBounds_toArray, List.set_cons_zero, List.set_cons_succ]
            refine wpAnyH_ready (rs := [9]) (by kernel_rfl) (by simp) (AllReadyH.cons rfl (fun K hK => ?_) AllReadyH.nil)
            rw [if_pos (by rfl)]
            refine wp_store_row 28 _ _ rfl _ (kCells .i16 R) rfl rfl 28 (kCells .i16 zeros44) HZ.out (by rw [kCells_size, HR.out]; kernel_rfl) (by rw [kCells_size, kCells_size, HR.out]; rfl) (kCells_one _ _) ?_
            simp only [Act.put, List.setIfInBounds_toArray, List.set_cons_zero, List.set_cons_succ]
            have HB := hid (heap_row_set (cs := kCells .i16 R) HZ.out)
            refine hK.out _ _ ⟨heap_row_kept (by have := HGT.out.1; omega) HH.out.1, heap_row_kept (by have := HGT.out.1; omega) HH.out.2.1, heap_row_kept (by have := HGT.out.2.1; omega) HH.out.2.2.1, HH.out.2.2.2.setRow (by have := HGT.out.1; omega) _⟩ (fun hH => ?_)
            clear HH hK K HZ
            have HH := hid hH
            clear hH
            refine wpAnyH_ready (rs := [10]) (by kernel_rfl) (by simp) (AllReadyH.cons rfl (fun K hK => ?_) AllReadyH.nil)
            rw [if_pos (by rfl)]
            go_simp
            refine hK.out _ _ HH.out (fun hH => ?_)
            clear hK K hH
            refine wpAnyH_done (by kernel_rfl) ?_ _
            exact ⟨_, rfl, hid ⟨HB.out, HGT.out.1, HGT.out.2.1, HH.out⟩⟩
        · skip
          rw [if_pos (by rfl)]
          go_simp
          have hgt := lt_of_heap HH.out.2.1
          have hgt0 := lt_of_heap HH.out.2.2.1
          refine hK.out _ _ ⟨heap_kept HH.out.1, heap_kept HH.out.2.1, heap_kept HH.out.2.2.1, HH.out.2.2.2.alloc _⟩ (fun hH => ?_)
          have HZ : Hid (((V).alloc lockerZ).heap[V.heap.size]? = some (.cells (kCells .i16 zeros44) 28 (0, 0))) := hid (heap_new (by first | rfl | simp))
          have HGT : Hid (w.heap.size + 1 < V.heap.size ∧ g1 < V.heap.size ∧ True) := hid ⟨by first | exact hgt | omega, by first | exact hgt0 | omega, True.intro⟩
          clear HH hK K
          have HH := hid hH
          clear hH hgt hgt0
          refine wpAnyH_ready (rs := [3]) (by kernel_rfl) (by simp) (AllReadyH.cons rfl (fun K hK => ?_) AllReadyH.nil)
          rw [if_pos (by rfl)]
          go_simp
          refine (HTY.out _).mono ?_
          rintro e V ⟨rfl, g⟩
          dsimp only
          refine hK.out _ _ ⟨g.heap HH.out.1, g.heap HH.out.2.1, g.heap HH.out.2.2.1, HH.out.2.2.2.trans g⟩ (fun hH => ?_)
          replace HZ := hid (g.heap HZ.out)
          clear HH hK K
          have HH := hid hH
          clear hH g
          refine wpAnyH_ready (rs := [4]) (by kernel_rfl) (by simp) (AllReadyH.cons rfl (fun K hK => ?_) AllReadyH.nil)
          rw [if_pos (by rfl)]
          go_simp
          refine (HIM.out _).mono ?_
          rintro e V ⟨rfl, g⟩
          dsimp only
          refine hK.out _ _ ⟨g.heap HH.out.1, g.heap HH.out.2.1, g.heap HH.out.2.2.1, HH.out.2.2.2.trans g⟩ (fun hH => ?_)
          replace HZ := hid (g.heap HZ.out)
          clear HH hK K
          have HH := hid hH
          clear hH g
          refine wpAnyH_take (i := 5) (v := .tuple #[.agg (kCells .i16 R), .int .i64 c]) rfl (by kernel_rfl) (by kernel_rfl) (by kernel_rfl) (fun _ _ _ h => h) (Or.inl ⟨by rfl, fun _ _ => by first | rfl | (go_simp; done) | (go_simp; rfl)⟩) HH.out ?_
          simp only [Act.put, List.setIfInBounds_toArray, List.set_cons_zero, List.set_cons_succ]
          refine wpAnyH_take (i := 6) (v := .agg (kCells .i16 R)) rfl (by kernel_rfl) (by kernel_rfl) (by kernel_rfl) (fun _ _ _ h => h) (Or.inl ⟨by rfl, fun _ _ => by first | rfl | (go_simp; done) | (go_simp; rfl)⟩) HH.out ?_
          simp only [Act.put, List.setIfInBounds_toArray, List.set_cons_zero, List.set_cons_succ]
          refine wpAnyH_take (i := 7) (v := .int .i64 c) rfl (by kernel_rfl) (by kernel_rfl) (by kernel_rfl) (fun _ _ _ h => h) (Or.inl ⟨by rfl, fun _ _ => by first | rfl | (go_simp; done) | (go_simp; rfl)⟩) HH.out ?_
          simp only [Act.put, List.setIfInBounds_toArray, List.set_cons_zero, List.set_cons_succ]
          refine wpAnyH_ready (rs := [9]) (by kernel_rfl) (by simp) (AllReadyH.cons rfl (fun K hK => ?_) AllReadyH.nil)
          rw [if_pos (by rfl)]
          refine wp_store_row 28 _ _ rfl _ (kCells .i16 R) rfl rfl 28 (kCells .i16 zeros44) HZ.out (by rw [kCells_size, HR.out]; kernel_rfl) (by rw [kCells_size, kCells_size, HR.out]; rfl) (kCells_one _ _) ?_
          simp only [Act.put, List.setIfInBounds_toArray, List.set_cons_zero, List.set_cons_succ]
          have HB := hid (heap_row_set (cs := kCells .i16 R) HZ.out)
          refine hK.out _ _ ⟨heap_row_kept (by have := HGT.out.1; omega) HH.out.1, heap_row_kept (by have := HGT.out.1; omega) HH.out.2.1, heap_row_kept (by have := HGT.out.2.1; omega) HH.out.2.2.1, HH.out.2.2.2.setRow (by have := HGT.out.1; omega) _⟩ (fun hH => ?_)
          clear HH hK K HZ
          have HH := hid hH
          clear hH
          refine wpAnyH_ready (rs := [10]) (by kernel_rfl) (by simp) (AllReadyH.cons rfl (fun K hK => ?_) AllReadyH.nil)
          rw [if_pos (by rfl)]
          go_simp
          refine hK.out _ _ HH.out (fun hH => ?_)
          clear hK K hH
          refine wpAnyH_done (by kernel_rfl) ?_ _
          exact ⟨_, rfl, hid ⟨HB.out, HGT.out.1, HGT.out.2.1, HH.out⟩⟩
      · skip
        rw [if_pos (by rfl)]
        go_simp
        have hgt := lt_of_heap HH.out.2.1
        have hgt0 := lt_of_heap HH.out.2.2.1
        refine hK.out _ _ ⟨heap_kept HH.out.1, heap_kept HH.out.2.1, heap_kept HH.out.2.2.1, HH.out.2.2.2.alloc _⟩ (fun hH => ?_)
        have HZ : Hid (((W1.drew).alloc lockerZ).heap[W1.heap.size]? = some (.cells (kCells .i16 zeros44) 28 (0, 0))) := hid (heap_new (by first | rfl | simp))
        have HGT : Hid (w.heap.size + 1 < W1.heap.size ∧ g1 < W1.heap.size ∧ True) := hid ⟨by first | exact hgt | omega, by first | exact hgt0 | omega, True.intro⟩
        clear HH hK K
        have HH := hid hH
        clear hH hgt hgt0
        refine wpAnyH_ready (rs := [1]) (by kernel_rfl) (by simp) (AllReadyH.cons rfl (fun K hK => ?_) AllReadyH.nil)
        rw [if_pos (by rfl)]
        go_simp
        refine (HTX.out _).mono ?_
        rintro e V ⟨rfl, g⟩
        dsimp only
        refine hK.out _ _ ⟨g.heap HH.out.1, g.heap HH.out.2.1, g.heap HH.out.2.2.1, HH.out.2.2.2.trans g⟩ (fun hH => ?_)
        replace HZ := hid (g.heap HZ.out)
        clear HH hK K
        have HH := hid hH
        clear hH g
        refine wpAnyH_ready (rs := [3]) (by kernel_rfl) (by simp) (AllReadyH.cons rfl (fun K hK => ?_) AllReadyH.nil)
        rw [if_pos (by rfl)]
        go_simp
        refine (HTY.out _).mono ?_
        rintro e V ⟨rfl, g⟩
        dsimp only
        refine hK.out _ _ ⟨g.heap HH.out.1, g.heap HH.out.2.1, g.heap HH.out.2.2.1, HH.out.2.2.2.trans g⟩ (fun hH => ?_)
        replace HZ := hid (g.heap HZ.out)
        clear HH hK K
        have HH := hid hH
        clear hH g
        refine wpAnyH_ready (rs := [4]) (by kernel_rfl) (by simp) (AllReadyH.cons rfl (fun K hK => ?_) AllReadyH.nil)
        rw [if_pos (by rfl)]
        go_simp
        refine (HIM.out _).mono ?_
        rintro e V ⟨rfl, g⟩
        dsimp only
        refine hK.out _ _ ⟨g.heap HH.out.1, g.heap HH.out.2.1, g.heap HH.out.2.2.1, HH.out.2.2.2.trans g⟩ (fun hH => ?_)
        replace HZ := hid (g.heap HZ.out)
        clear HH hK K
        have HH := hid hH
        clear hH g
        refine wpAnyH_take (i := 5) (v := .tuple #[.agg (kCells .i16 R), .int .i64 c]) rfl (by kernel_rfl) (by kernel_rfl) (by kernel_rfl) (fun _ _ _ h => h) (Or.inl ⟨by rfl, fun _ _ => by first | rfl | (go_simp; done) | (go_simp; rfl)⟩) HH.out ?_
        simp only [Act.put, List.setIfInBounds_toArray, List.set_cons_zero, List.set_cons_succ]
        refine wpAnyH_take (i := 6) (v := .agg (kCells .i16 R)) rfl (by kernel_rfl) (by kernel_rfl) (by kernel_rfl) (fun _ _ _ h => h) (Or.inl ⟨by rfl, fun _ _ => by first | rfl | (go_simp; done) | (go_simp; rfl)⟩) HH.out ?_
        simp only [Act.put, List.setIfInBounds_toArray, List.set_cons_zero, List.set_cons_succ]
        refine wpAnyH_take (i := 7) (v := .int .i64 c) rfl (by kernel_rfl) (by kernel_rfl) (by kernel_rfl) (fun _ _ _ h => h) (Or.inl ⟨by rfl, fun _ _ => by first | rfl | (go_simp; done) | (go_simp; rfl)⟩) HH.out ?_
        simp only [Act.put, List.setIfInBounds_toArray, List.set_cons_zero, List.set_cons_succ]
        refine wpAnyH_ready (rs := [9]) (by kernel_rfl) (by simp) (AllReadyH.cons rfl (fun K hK => ?_) AllReadyH.nil)
        rw [if_pos (by rfl)]
        refine wp_store_row 28 _ _ rfl _ (kCells .i16 R) rfl rfl 28 (kCells .i16 zeros44) HZ.out (by rw [kCells_size, HR.out]; kernel_rfl) (by rw [kCells_size, kCells_size, HR.out]; rfl) (kCells_one _ _) ?_
        simp only [Act.put, List.setIfInBounds_toArray, List.set_cons_zero, List.set_cons_succ]
        have HB := hid (heap_row_set (cs := kCells .i16 R) HZ.out)
        refine hK.out _ _ ⟨heap_row_kept (by have := HGT.out.1; omega) HH.out.1, heap_row_kept (by have := HGT.out.1; omega) HH.out.2.1, heap_row_kept (by have := HGT.out.2.1; omega) HH.out.2.2.1, HH.out.2.2.2.setRow (by have := HGT.out.1; omega) _⟩ (fun hH => ?_)
        clear HH hK K HZ
        have HH := hid hH
        clear hH
        refine wpAnyH_ready (rs := [10]) (by kernel_rfl) (by simp) (AllReadyH.cons rfl (fun K hK => ?_) AllReadyH.nil)
        rw [if_pos (by rfl)]
        go_simp
        refine hK.out _ _ HH.out (fun hH => ?_)
        clear hK K hH
        refine wpAnyH_done (by kernel_rfl) ?_ _
        exact ⟨_, rfl, hid ⟨HB.out, HGT.out.1, HGT.out.2.1, HH.out⟩⟩
    case k2 =>
      intro e a W2 h
      cases e <;> first | exact h.elim | skip
      obtain ⟨g2, rfl, HF⟩ := h
      obtain ⟨BQ, -, -, -, -, BR, gr⟩ := HF.out
      clear HF
      replace BQ := hid BQ
      replace BR := hid BR
      replace gr := hid gr
      go_wp2_with (first | (refine wpList_load_struct rfl 28 (.tmp 7) rfl g2 rfl _ (kCells .i16 R) _ BQ.out Try.underlying28 rfl (by rw [kCells_size, HR.out]; kernel_rfl) ?_) | (refine wpList_load_struct rfl 28 (.tmp 5) rfl g1 rfl _ (kCells .i16 R) _ BR.out Try.underlying28 rfl (by rw [kCells_size, HR.out]; kernel_rfl) ?_))
      refine (HEQ.out _).mono ?_
      rintro e W3 ⟨rfl, g⟩
      have G := hid (gr.out.trans g)
      clear g
      go_wp2_with fail
      go_ret
      exact ⟨rfl, G.out⟩
end Go.Proofs.Ytaedompacmdacaa
