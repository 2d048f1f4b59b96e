/- What is left in a locker: both functions. -/
import Derived.Test.YtaedompacmdacaaLockP
import Derived.Test.YtaedompacmdacaaLockO
namespace Go.Proofs.Ytaedompacmdacaa
open Go.RowKit
def leftV (xs ys : List Int) : List Int := if covV xs ys then cmbL diff xs ys else zeros44
def leftC (xs ys : List Int) : Int := if lockB xs && lockB ys then (if covTo xs ys 44 then 0 else 4) else 1
theorem leftV_length (xs ys : List Int) : (leftV xs ys).length = 44 := by
  unfold leftV
  split
  · exact cmbL_length _ _ _
  · rfl
theorem left_no {xs ys : List Int} (h : (lockB xs && lockB ys) = false) : leftV xs ys = zeros44 ∧ leftC xs ys = 1 := by unfold leftV leftC; rw [cov_no h, h]; exact ⟨rfl, rfl⟩
theorem left_short {xs ys : List Int} (hx : lockB xs = true) (hy : lockB ys = true) (h : covTo xs ys 44 = false) : leftV xs ys = zeros44 ∧ leftC xs ys = 4 := by unfold leftV leftC; rw [cov_yes hx hy, h, hx, hy]; exact ⟨rfl, rfl⟩
theorem left_yes {xs ys : List Int} (hx : lockB xs = true) (hy : lockB ys = true) (h : covTo xs ys 44 = true) : leftV xs ys = cmbL diff xs ys ∧ leftC xs ys = 0 := by unfold leftV leftC; rw [cov_yes hx hy, h, hx, hy]; exact ⟨rfl, rfl⟩
set_option maxHeartbeats 8000000 in
set_option maxRecDepth 100000 in
theorem impl_LeftIn_any (xs ys : List Int) (lx : xs.length = 44) (ly : ys.length = 44) (fx : Fits .i16 xs) (fy : Fits .i16 ys) (w : World) :
    Calls Try.prog 28 #[.agg (kCells .i16 xs), .agg (kCells .i16 ys)] w fun e w' => e = .returned (.tuple #[.agg (kCells .i16 (leftV xs ys)), .int .i64 (leftC xs ys)]) ∧ Gr w w' := by
  have LX := hid lx
  have LY := hid ly
  have HCO := hid (impl_Covers_any xs ys lx ly fx fy)
  have HSX := hid (stockOf_any xs lx)
  have HSY := hid (stockOf_any ys ly)
  have HCB := hid (fun (hx : lockB xs = true) (hy : lockB ys = true) => combined_any diff 70 (callFunc_enter Try.func70 (by kernel_rfl) (by kernel_rfl)) (fun x y hx hy w => difference_any x y hx hy w) xs ys lx ly (mid_of_lock hx) (mid_of_lock hy))
  have HLK := hid (locker_any (cmbL diff xs ys) (cmbL_length _ _ _))
  have HLC := hid (cmbL_length diff xs ys)
  have n0 : Hid ((((w.alloc (.cells (kCells .i16 xs) 28)).alloc (.cells (kCells .i16 ys) 28)).alloc (.cells (kCells .i16 zeros44) 28)).heap[w.heap.size]? = some (.cells (kCells .i16 xs) 28 (0, 0))) := hid (heap_kept (heap_kept (heap_new rfl)))
  have n1 : Hid ((((w.alloc (.cells (kCells .i16 xs) 28)).alloc (.cells (kCells .i16 ys) 28)).alloc (.cells (kCells .i16 zeros44) 28)).heap[w.heap.size + 1]? = some (.cells (kCells .i16 ys) 28 (0, 0))) := hid (heap_kept (heap_new (by simp)))
  have n2 : Hid ((((w.alloc (.cells (kCells .i16 xs) 28)).alloc (.cells (kCells .i16 ys) 28)).alloc (.cells (kCells .i16 zeros44) 28)).heap[w.heap.size + 1 + 1]? = some (.cells (kCells .i16 zeros44) 28 (0, 0))) := hid (heap_new (by simp))
  have n3 : Hid (Gr w (((w.alloc (.cells (kCells .i16 xs) 28)).alloc (.cells (kCells .i16 ys) 28)).alloc (.cells (kCells .i16 zeros44) 28))) := hid ((((Gr.refl _).alloc _).alloc _).alloc _)
  clear lx ly fx fy
  go_enter Try.func28, Try.ntmps28
  go_wp2_with (first | (refine wpList_load_struct rfl 28 (.tmp 2) rfl w.heap.size rfl _ (kCells .i16 xs) _ n0.out Try.underlying28 rfl (by rw [kCells_size, LX.out]; kernel_rfl) ?_) | (refine wpList_load_struct rfl 28 (.tmp 3) rfl (w.heap.size + 1) rfl _ (kCells .i16 ys) _ n1.out Try.underlying28 rfl (by rw [kCells_size, LY.out]; kernel_rfl) ?_))
  refine (HCO.out _).mono ?_
  rintro e W3 ⟨rfl, g⟩
  have b0 := hid (g.heap n0.out)
  have b1 := hid (g.heap n1.out)
  have b2 := hid (g.heap n2.out)
  have gr : Hid (Gr w W3) := hid (n3.out.trans g)
  clear n0 n1 n2 n3 g
  cases hv : (lockB xs && lockB ys) with
  | false =>
    have EV := hid (left_no hv).1
    have EC := hid (left_no hv).2
    rw [cov_no hv, (miss_no hv).2]
    clear hv HCB
    go_wp2_with (first | (refine wpList_build_to rfl 28 rfl built_locker ?_) | (refine wpList_store_cells rfl 28 _ _ rfl _ (kCells .i16 zeros44) (kCells .i16 zeros44) rfl rfl _ 44 b2.out (by kernel_rfl) rfl rfl (kCells_one _ _) ?_))
    refine bodyPost_ret (results_struct2 (by rfl) _ _ _ _ _ _ _ rfl rfl (heap_row_set b2.out) Try.underlying28 rfl (by kernel_rfl)) rfl ⟨by rw [EV.out, EC.out]; rfl, ?_⟩
    exact gr.out.setRow (by omega) _
  | true =>
    obtain ⟨hx, hy⟩ : lockB xs = true ∧ lockB ys = true := by simpa using hv
    rw [cov_yes hx hy, (miss_yes hx hy).2]
    cases hc : covTo xs ys 44 with
    | false =>
      have EV := hid (left_short hx hy hc).1
      have EC := hid (left_short hx hy hc).2
      clear hv hx hy hc HCB
      go_wp2_with (first | (refine wpList_build_to rfl 28 rfl built_locker ?_) | (refine wpList_store_cells rfl 28 _ _ rfl _ (kCells .i16 zeros44) (kCells .i16 zeros44) rfl rfl _ 44 b2.out (by kernel_rfl) rfl rfl (kCells_one _ _) ?_))
      refine bodyPost_ret (results_struct2 (by rfl) _ _ _ _ _ _ _ rfl rfl (heap_row_set b2.out) Try.underlying28 rfl (by kernel_rfl)) rfl ⟨by rw [EV.out, EC.out]; rfl, ?_⟩
      exact gr.out.setRow (by omega) _
    | true =>
      have EV := hid (left_yes hx hy hc).1
      have EC := hid (left_yes hx hy hc).2
      replace HCB := hid (HCB.out hx hy)
      clear hv hx hy hc
      go_wp2_with fail
      refine wp_region_held_drew (S := fun V => V.heap[w.heap.size]? = some (.cells (kCells .i16 (xs)) 28 (0, 0)) ∧ V.heap[w.heap.size + 1]? = some (.cells (kCells .i16 (ys)) 28 (0, 0)) ∧ (∃ zs : List Int, zs.length = 44 ∧ V.heap[w.heap.size + 1 + 1]? = some (.cells (kCells .i16 zs) 28 (0, 0))) ∧ Gr w V) (by kernel_rfl) ⟨b0.out, b1.out, ⟨_, rfl, b2.out⟩, gr.out.drew⟩ (fun hH => ?_)
      have HH := hid hH
      clear hH
      refine wpAnyH_take (i := 0) (v := .agg (kCells .i16 (xs))) rfl (by kernel_rfl) (by kernel_rfl) (by kernel_rfl) (fun _ _ _ h => h) (yields_struct rfl 28 (.tmp 2) rfl (w.heap.size) rfl 28 _ _ (fun _ h => h.1) Try.underlying28 rfl (by rw [kCells_size, LX.out]; kernel_rfl)) HH.out ?_
      simp only [Act.put, List.setIfInBounds_toArray, List.set_cons_zero, List.set_cons_succ]
      refine wpAnyH_take (i := 2) (v := .agg (kCells .i16 (ys))) rfl (by kernel_rfl) (by kernel_rfl) (by kernel_rfl) (fun _ _ _ h => h) (yields_struct rfl 28 (.tmp 3) rfl (w.heap.size + 1) rfl 28 _ _ (fun _ h => h.2.1) Try.underlying28 rfl (by rw [kCells_size, LY.out]; kernel_rfl)) HH.out ?_
      simp only [Act.put, List.setIfInBounds_toArray, List.set_cons_zero, List.set_cons_succ]
      refine wpAnyH_ready (rs := [1]) (by kernel_rfl) (by simp) (AllReadyH.cons rfl (fun K hK => ?_) AllReadyH.nil)
      rw [if_pos (by rfl)]
      go_simp
      refine (HSX.out _).mono ?_
      rintro e V ⟨rfl, g⟩
      dsimp only
      refine hK.out _ _ ⟨g.heap HH.out.1, g.heap HH.out.2.1, (by obtain ⟨zs, z1, z2⟩ := HH.out.2.2.1; exact ⟨zs, z1, g.heap z2⟩), HH.out.2.2.2.trans g⟩ (fun hH => ?_)
      clear HH hK K
      have HH := hid hH
      clear hH g
      refine wpAnyH_ready (rs := [3]) (by kernel_rfl) (by simp) (AllReadyH.cons rfl (fun K hK => ?_) AllReadyH.nil)
      rw [if_pos (by rfl)]
      go_simp
      refine (HSY.out _).mono ?_
      rintro e V ⟨rfl, g⟩
      dsimp only
      refine hK.out _ _ ⟨g.heap HH.out.1, g.heap HH.out.2.1, (by obtain ⟨zs, z1, z2⟩ := HH.out.2.2.1; exact ⟨zs, z1, g.heap z2⟩), HH.out.2.2.2.trans g⟩ (fun hH => ?_)
      clear HH hK K
      have HH := hid hH
      clear hH g
      refine wpAnyH_ready (rs := [4]) (by kernel_rfl) (by simp) (AllReadyH.cons rfl (fun K hK => ?_) AllReadyH.nil)
      rw [if_pos (by rfl)]
      go_simp
      refine (HCB.out _).mono ?_
      rintro e V ⟨rfl, g⟩
      dsimp only
      refine hK.out _ _ ⟨g.heap HH.out.1, g.heap HH.out.2.1, (by obtain ⟨zs, z1, z2⟩ := HH.out.2.2.1; exact ⟨zs, z1, g.heap z2⟩), HH.out.2.2.2.trans g⟩ (fun hH => ?_)
      clear HH hK K
      have HH := hid hH
      clear hH g
      refine wpAnyH_ready (rs := [5]) (by kernel_rfl) (by simp) (AllReadyH.cons rfl (fun K hK => ?_) AllReadyH.nil)
      rw [if_pos (by rfl)]
      go_simp
      refine (HLK.out _).mono ?_
      rintro e V ⟨rfl, g⟩
      dsimp only
      refine hK.out _ _ ⟨g.heap HH.out.1, g.heap HH.out.2.1, (by obtain ⟨zs, z1, z2⟩ := HH.out.2.2.1; exact ⟨zs, z1, g.heap z2⟩), HH.out.2.2.2.trans g⟩ (fun hH => ?_)
      clear HH hK K
      have HH := hid hH
      clear hH g
      refine wpAnyH_ready (rs := [6]) (by kernel_rfl) (by simp) (AllReadyH.cons rfl (fun K hK => ?_) AllReadyH.nil)
      rw [if_pos (by rfl)]
      obtain ⟨zs, hzs, hzb⟩ := HH.out.2.2.1
      refine wp_store_row 28 _ _ rfl (w.heap.size + 1 + 1) (kCells .i16 (cmbL diff xs ys)) rfl rfl 28 (kCells .i16 zs) hzb (by rw [kCells_size, HLC.out]; kernel_rfl) (by rw [kCells_size, kCells_size, hzs, HLC.out]) (kCells_one _ _) ?_
      simp only [Act.put, List.setIfInBounds_toArray, List.set_cons_zero, List.set_cons_succ]
      have HB := hid (heap_row_set (cs := kCells .i16 (cmbL diff xs ys)) hzb)
      refine hK.out _ _ ⟨heap_row_kept (by omega) HH.out.1, heap_row_kept (by omega) HH.out.2.1, ⟨_, HLC.out, HB.out⟩, HH.out.2.2.2.setRow (by omega) _⟩ (fun hH => ?_)
      clear HH hK K
      have HH := hid hH
      clear hH hzb hzs
      refine wpAnyH_ready (rs := [7]) (by kernel_rfl) (by simp) (AllReadyH.cons rfl (fun K hK => ?_) AllReadyH.nil)
      rw [if_pos (by rfl)]
      go_simp
      refine hK.out _ _ HH.out (fun hH => ?_)
      clear hK K hH
      refine wpAnyH_done (by kernel_rfl) ?_ _
      go_wp2_with fail
      refine bodyPost_ret (results_struct2 (by rfl) _ _ _ _ _ _ _ rfl rfl HB.out Try.underlying28 rfl (by rw [kCells_size, HLC.out]; kernel_rfl)) rfl ⟨by rw [EV.out, EC.out]; rfl, HH.out.2.2.2⟩
set_option maxHeartbeats 8000000 in
set_option maxRecDepth 100000 in
theorem spec_LeftIn_any (xs ys : List Int) (lx : xs.length = 44) (ly : ys.length = 44) (fx : Fits .i16 xs) (fy : Fits .i16 ys) (w : World) :
    Calls Try.prog 27 #[.agg (kCells .i16 xs), .agg (kCells .i16 ys)] w fun e w' => e = .returned (.tuple #[.agg (kCells .i16 (leftV xs ys)), .int .i64 (leftC xs ys)]) ∧ Gr w w' := by
  have LX := hid lx
  have LY := hid ly
  have n0 : Hid ((((w.alloc (.cells (kCells .i16 xs) 28)).alloc (.cells (kCells .i16 ys) 28)).alloc lockerZ).heap[w.heap.size]? = some (.cells (kCells .i16 xs) 28 (0, 0))) := hid (heap_kept (heap_kept (heap_new rfl)))
  have n1 : Hid ((((w.alloc (.cells (kCells .i16 xs) 28)).alloc (.cells (kCells .i16 ys) 28)).alloc lockerZ).heap[w.heap.size + 1]? = some (.cells (kCells .i16 ys) 28 (0, 0))) := hid (heap_kept (heap_new (by simp)))
  have n2 : Hid ((((w.alloc (.cells (kCells .i16 xs) 28)).alloc (.cells (kCells .i16 ys) 28)).alloc lockerZ).heap[w.heap.size + 1 + 1]? = some (.cells (kCells .i16 zeros44) 28 (0, 0))) := hid (heap_new (by simp))
  have n3 : Hid (Gr w (((w.alloc (.cells (kCells .i16 xs) 28)).alloc (.cells (kCells .i16 ys) 28)).alloc lockerZ)) := hid ((((Gr.refl _).alloc _).alloc _).alloc _)
  have HX := hid (l04Ok_any w.heap.size _ xs lx fx _ n0.out)
  have HY := hid (l04Ok_any (w.heap.size + 1) _ ys ly fy _ n1.out)
  have HM := hid (l04Covers_any w.heap.size (w.heap.size + 1) _ _ xs ys lx ly _ n0.out n1.out)
  clear lx ly fx fy
  cases hx : lockB xs with
  | false =>
    have EV := hid (left_no (xs := xs) (ys := ys) (by rw [hx]; rfl)).1
    have EC := hid (left_no (xs := xs) (ys := ys) (by rw [hx]; rfl)).2
    rw [hx] at HX
    clear HM HY hx n0 n1
    go_enter Try.func27, Try.ntmps27
    go_wp2_with fail
    refine HX.out.mono ?_
    rintro e w' ⟨rfl, rfl⟩
    have b2 := n2
    go_wp2_with (first | (refine wpList_build_to rfl 28 rfl built_locker ?_) | (refine wpList_store_cells rfl 28 _ _ rfl _ (kCells .i16 zeros44) (kCells .i16 zeros44) rfl rfl _ 44 b2.out (by kernel_rfl) rfl rfl (kCells_one _ _) ?_))
    refine bodyPost_ret (results_struct2 (by rfl) _ _ _ _ _ _ _ rfl rfl (heap_row_set b2.out) Try.underlying28 rfl (by kernel_rfl)) rfl ⟨by rw [EV.out, EC.out]; rfl, ?_⟩
    exact n3.out.setRow (by omega) _
  | true =>
    cases hy : lockB ys with
    | false =>
      have EV := hid (left_no (xs := xs) (ys := ys) (by rw [hx, hy]; rfl)).1
      have EC := hid (left_no (xs := xs) (ys := ys) (by rw [hx, hy]; rfl)).2
      rw [hx] at HX
      rw [hy] at HY
      clear HM hx hy n0 n1
      go_enter Try.func27, Try.ntmps27
      go_wp2_with fail
      refine HX.out.mono ?_
      rintro e w' ⟨rfl, rfl⟩
      go_wp2_with fail
      refine HY.out.mono ?_
      rintro e w' ⟨rfl, rfl⟩
      have b2 := n2
      go_wp2_with (first | (refine wpList_build_to rfl 28 rfl built_locker ?_) | (refine wpList_store_cells rfl 28 _ _ rfl _ (kCells .i16 zeros44) (kCells .i16 zeros44) rfl rfl _ 44 b2.out (by kernel_rfl) rfl rfl (kCells_one _ _) ?_))
      refine bodyPost_ret (results_struct2 (by rfl) _ _ _ _ _ _ _ rfl rfl (heap_row_set b2.out) Try.underlying28 rfl (by kernel_rfl)) rfl ⟨by rw [EV.out, EC.out]; rfl, ?_⟩
      exact n3.out.setRow (by omega) _
    | true =>
      cases hc : covTo xs ys 44 with
      | false =>
        have EV := hid (left_short hx hy hc).1
        have EC := hid (left_short hx hy hc).2
        rw [hx] at HX
        rw [hy] at HY
        rw [hc] at HM
        clear hx hy hc n0 n1
        go_enter Try.func27, Try.ntmps27
        go_wp2_with fail
        refine HX.out.mono ?_
        rintro e w' ⟨rfl, rfl⟩
        go_wp2_with fail
        refine HY.out.mono ?_
        rintro e w' ⟨rfl, rfl⟩
        go_wp2_with fail
        refine HM.out.mono ?_
        rintro e w' ⟨rfl, g⟩
        have b2 := hid (g.heap n2.out)
        have gr := hid (n3.out.trans g)
        clear g
        go_wp2_with (first | (refine wpList_build_to rfl 28 rfl built_locker ?_) | (refine wpList_store_cells rfl 28 _ _ rfl _ (kCells .i16 zeros44) (kCells .i16 zeros44) rfl rfl _ 44 b2.out (by kernel_rfl) rfl rfl (kCells_one _ _) ?_))
        refine bodyPost_ret (results_struct2 (by rfl) _ _ _ _ _ _ _ rfl rfl (heap_row_set b2.out) Try.underlying28 rfl (by kernel_rfl)) rfl ⟨by rw [EV.out, EC.out]; rfl, ?_⟩
        exact gr.out.setRow (by omega) _
      | true =>
        have EV := hid (left_yes hx hy hc).1
        have EC := hid (left_yes hx hy hc).2
        have VX := hid (fun k => lockB_get hx k)
        have VY := hid (fun k => lockB_get hy k)
        rw [hx] at HX
        rw [hy] at HY
        rw [hc] at HM
        clear hx hy hc
        obtain ⟨col, hcol⟩ : ∃ col : Nat → Int, col = fun i => diff (xs.getD i 0) (ys.getD i 0) := ⟨_, rfl⟩
        have HCOL := hid (fun i => show col i = xs.getD i 0 - ys.getD i 0 by rw [hcol]; rfl)
        have HALL := hid (show ovTo col xs 44 = cmbL diff xs ys by have := ovTo_all col xs; rw [LX.out] at this; rw [this, hcol]; rfl)
        have HLC := hid (cmbL_length diff xs ys)
        clear hcol
        go_enter Try.func27, Try.ntmps27
        go_wp2_with fail
        refine HX.out.mono ?_
        rintro e w' ⟨rfl, rfl⟩
        go_wp2_with fail
        refine HY.out.mono ?_
        rintro e w' ⟨rfl, rfl⟩
        go_wp2_with fail
        refine HM.out.mono ?_
        rintro e W4 ⟨rfl, g⟩
        have b0 := hid (g.heap n0.out)
        have b1 := hid (g.heap n1.out)
        have b2 := hid (g.heap n2.out)
        have gr := hid (n3.out.trans g)
        clear g n0 n1 n2 n3 HX HY HM
        go_wp2_with fail
        go_loopw [6] (fun i wr => ∃ k : Nat, k ≤ 40 ∧ i = .int .i64 k ∧ Hid (Gr w wr) ∧ Hid (wr.heap[w.heap.size]? = some (.cells (kCells .i16 (ovTo col xs k)) 28 (0, 0))) ∧ Hid (wr.heap[w.heap.size + 1]? = some (.cells (kCells .i16 ys) 28 (0, 0))) ∧ Hid (wr.heap[w.heap.size + 1 + 1]? = some (.cells (kCells .i16 zeros44) 28 (0, 0)))) (fun i _ => 40 - (intOf i).toNat)
        case atStart => exact ⟨0, Nat.zero_le _, rfl, gr, hid (by rw [ovTo_zero]; exact b0.out), b1, b2⟩
        case round =>
          obtain ⟨k, hk, rfl, hg, h0, h1, h2⟩ := hrel
          by_cases hltk : k < 40
          · have hl := ovTo_length (col := col) (xs := xs) (k := k) (by rw [LX.out]; omega)
            rw [LX.out] at hl
            have hcx := cell_ints h0.out (i := k) (by omega)
            rw [ovTo_get (Nat.le_refl _)] at hcx
            have hcy := cell_ints h1.out (i := k) (by rw [LY.out]; omega)
            have hf0 : wr.frozen? ⟨w.heap.size, k, none⟩ = false := frozen_of_row _ _ _ _ _ h0.out
            obtain ⟨x0, x1⟩ := VX.out k
            obtain ⟨y0, y1⟩ := VY.out k
            have HSET := hid (ovTo_set (col := col) (xs := xs) (k := k) (by rw [LX.out]; omega))
            rw [HCOL.out k] at HSET
            clear hl
            generalize xs.getD k 0 = x at *
            generalize ys.getD k 0 = y at *
            have e1 : IntKind.i16.wrap (x - y) = x - y := IntWalk.i16_in _ (by omega)
            have hb0 : (0 : Int) ≤ k := by omega
            have hb1 : (k : Int) < 40 := by omega
            go_wp2_with fail
            refine wp_region_still_tail 11 rfl (by kernel_rfl) ?_
            simp only [List.take_succ_cons, List.take_zero, List.drop_succ_cons, List.drop_zero]
            repeat still_step
            refine wpStill_nil ?_
            go_wp2_with fail
            go_roundw
            case rel => exact ⟨k + 1, by omega, by go_num, hid ((hg.out.setCell (p := ⟨w.heap.size, k, none⟩) (by dsimp only; omega) _).drew), hid (by rw [← HSET.out]; exact heap_int_set h0.out), hid (heap_stored (w := wr) (by dsimp only; omega) h1.out), hid (heap_stored (w := wr) (by dsimp only; omega) h2.out)⟩
            case measure => simp [intOf]; omega
          · have hk40 : k = 40 := by omega
            rw [hk40] at h0
            clear hk40
            obtain ⟨wo, hwo⟩ : ∃ wo : World, wo = wr := ⟨_, rfl⟩
            rw [← hwo] at hg h0 h1 h2 ⊢
            clear hwo
            go_wp2_with fail
            go_loopw [7] (fun i wr => ∃ j : Nat, j ≤ 4 ∧ i = .int .i64 j ∧ Hid (Gr w wr) ∧ Hid (wr.heap[w.heap.size]? = some (.cells (kCells .i16 (ovTo col xs (40 + j))) 28 (0, 0))) ∧ Hid (wr.heap[w.heap.size + 1]? = some (.cells (kCells .i16 ys) 28 (0, 0))) ∧ Hid (wr.heap[w.heap.size + 1 + 1]? = some (.cells (kCells .i16 zeros44) 28 (0, 0)))) (fun i _ => 4 - (intOf i).toNat)
            case atStart => exact ⟨0, Nat.zero_le _, rfl, hg, h0, h1, h2⟩
            case round =>
              obtain ⟨j, hj, rfl, hg, h0, h1, h2⟩ := hrel
              by_cases hltj : j < 4
              · have hl := ovTo_length (col := col) (xs := xs) (k := 40 + j) (by rw [LX.out]; omega)
                rw [LX.out] at hl
                have hcx := cell_ints h0.out (i := 40 + j) (by omega)
                rw [ovTo_get (Nat.le_refl _)] at hcx
                have hcy := cell_ints h1.out (i := 40 + j) (by rw [LY.out]; omega)
                have hf0 : wr.frozen? ⟨w.heap.size, 40 + j, none⟩ = false := frozen_of_row _ _ _ _ _ h0.out
                obtain ⟨x0, x1⟩ := VX.out (40 + j)
                obtain ⟨y0, y1⟩ := VY.out (40 + j)
                have HSET := hid (ovTo_set (col := col) (xs := xs) (k := 40 + j) (by rw [LX.out]; omega))
                rw [HCOL.out (40 + j)] at HSET
                clear hl
                generalize xs.getD (40 + j) 0 = x at *
                generalize ys.getD (40 + j) 0 = y at *
                have e1 : IntKind.i16.wrap (x - y) = x - y := IntWalk.i16_in _ (by omega)
                have hb0 : (0 : Int) ≤ j := by omega
                have hb1 : (j : Int) < 4 := by omega
                go_wp2_with fail
                refine wp_region_still_tail 11 rfl (by kernel_rfl) ?_
                simp only [List.take_succ_cons, List.take_zero, List.drop_succ_cons, List.drop_zero]
                repeat still_step
                refine wpStill_nil ?_
                go_wp2_with fail
                go_roundw
                case rel => exact ⟨j + 1, by omega, by go_num, hid ((hg.out.setCell (p := ⟨w.heap.size, 40 + j, none⟩) (by dsimp only; omega) _).drew), hid (by rw [← Nat.add_assoc, ← HSET.out]; exact heap_int_set h0.out), hid (heap_stored (w := wr) (by dsimp only; omega) h1.out), hid (heap_stored (w := wr) (by dsimp only; omega) h2.out)⟩
                case measure => simp [intOf]; omega
              · obtain rfl : j = 4 := by omega
                rw [HALL.out] at h0
                go_wp2_with (first | (refine wpList_load_struct rfl 28 _ rfl w.heap.size rfl _ (kCells .i16 (cmbL diff xs ys)) _ h0.out Try.underlying28 rfl (by rw [kCells_size, HLC.out]; kernel_rfl) ?_) | (refine wpList_store_cells rfl 28 _ _ rfl _ (kCells .i16 (cmbL diff xs ys)) (kCells .i16 zeros44) rfl rfl _ 44 h2.out (by kernel_rfl) (by rw [kCells_size, HLC.out]) rfl (kCells_one _ _) ?_))
                refine bodyPost_ret (results_struct2 (by rfl) _ _ _ _ _ _ _ rfl rfl (heap_row_set h2.out) Try.underlying28 rfl (by rw [kCells_size, HLC.out]; kernel_rfl)) rfl ⟨by rw [EV.out, EC.out]; rfl, ?_⟩
                exact hg.out.setRow (by omega) _
end Go.Proofs.Ytaedompacmdacaa
