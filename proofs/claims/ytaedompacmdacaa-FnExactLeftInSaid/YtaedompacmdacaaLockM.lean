/- What is missing from a locker: the model's functions. -/
import Derived.Test.YtaedompacmdacaaLockG
namespace Go.Proofs.Ytaedompacmdacaa
open Go.RowKit
abbrev lockerZ : Obj := .cells (kCells .i16 zeros44) 28
set_option maxHeartbeats 8000000 in
set_option maxRecDepth 100000 in
theorem l04Missing_any (bx by_ : Nat) (tx ty : TypeId) (xs ys : List Int) (lx : xs.length = 44) (ly : ys.length = 44) (vx : lockB xs = true) (vy : lockB ys = true) (w : World) (hx : w.heap[bx]? = some (.cells (kCells .i16 xs) tx (0, 0))) (hy : w.heap[by_]? = some (.cells (kCells .i16 ys) ty (0, 0))) :
    Calls Try.prog 64 #[.pointer (some ⟨bx, 0, none⟩), .pointer (some ⟨by_, 0, none⟩)] w fun e w' => e = .returned (.agg (kCells .i16 (cmbL shrt xs ys))) ∧ Gr w w' := by
  have HX := hid (fun k (hk : k < 44) => cell_ints hx (i := k) (by rw [lx]; exact hk))
  have HY := hid (fun k (hk : k < 44) => cell_ints hy (i := k) (by rw [ly]; exact hk))
  have VX := hid vx
  have VY := hid vy
  obtain ⟨col, hcol⟩ : ∃ col : Nat → Int, col = fun i => shrt (xs.getD i 0) (ys.getD i 0) := ⟨_, rfl⟩
  have HCOL := hid (fun i => show col i = shrt (xs.getD i 0) (ys.getD i 0) by rw [hcol])
  have HALL := hid (show fillTo 44 col 44 = cmbL shrt xs ys by rw [fillTo_all, hcol]; rfl)
  have HZ0 := hid (show fillTo 44 col 0 = zeros44 from fillTo_zero _ _)
  clear hcol lx ly vx vy hx hy
  have b0 : Hid (((w.alloc lockerZ).alloc lockerZ).heap[w.heap.size]? = some (.cells (kCells .i16 zeros44) 28 (0, 0))) := hid (heap_kept (heap_new rfl))
  have b1 : Hid (((w.alloc lockerZ).alloc lockerZ).heap[w.heap.size + 1]? = some (.cells (kCells .i16 zeros44) 28 (0, 0))) := hid (heap_new (by simp))
  have gr : Hid (Gr w ((w.alloc lockerZ).alloc lockerZ)) := hid (((Gr.refl _).alloc _).alloc _)
  go_enter Try.func64, Try.ntmps64
  go_wp2_with (first | (refine wpList_build_to rfl 28 rfl built_locker ?_) | (refine wpList_store_cells rfl 28 _ _ rfl _ (kCells .i16 zeros44) (kCells .i16 zeros44) rfl rfl _ 44 b1.out (by kernel_rfl) rfl rfl (kCells_one _ _) ?_; generalize hW : World.setRow _ _ (kCells .i16 zeros44) = W2))
  have c0 : Hid (W2.heap[w.heap.size]? = some (.cells (kCells .i16 zeros44) 28 (0, 0))) := hid (by rw [← hW]; exact heap_row_kept (by omega) b0.out)
  have c1 : Hid (W2.heap[w.heap.size + 1]? = some (.cells (kCells .i16 zeros44) 28 (0, 0))) := hid (by rw [← hW]; exact heap_row_set b1.out)
  have gr2 : Hid (Gr w W2) := hid (by rw [← hW]; exact gr.out.setRow (by omega) _)
  clear hW b0 b1 gr
  go_loopw [6] (fun i wr => ∃ k : Nat, k ≤ 40 ∧ i = .int .i64 k ∧ Hid (Gr w wr) ∧ Hid (wr.heap[w.heap.size]? = some (.cells (kCells .i16 zeros44) 28 (0, 0))) ∧ Hid (wr.heap[w.heap.size + 1]? = some (.cells (kCells .i16 (fillTo 44 col k)) 28 (0, 0)))) (fun i _ => 40 - (intOf i).toNat)
  case atStart => exact ⟨0, Nat.zero_le _, rfl, gr2, c0, hid (by rw [HZ0.out]; exact c1.out)⟩
  case round =>
    obtain ⟨k, hk, rfl, hg, h0, h1⟩ := hrel
    by_cases hltk : k < 40
    · have hcx := hg.out.cell (HX.out k (by omega))
      have hcy := hg.out.cell (HY.out k (by omega))
      obtain ⟨x0, x1⟩ := lockB_get VX.out k
      obtain ⟨y0, y1⟩ := lockB_get VY.out k
      have HCO := hid (HCOL.out k)
      have HSET := hid (fillTo_set 44 col k (by omega))
      have HSK := hid (fillTo_skip (n := 44) (col := col) (k := k) (by omega))
      have hl := fillTo_length 44 col k (by omega)
      have hc1 := cell_ints h1.out (i := k) (by omega)
      have hf1 : wr.frozen? ⟨w.heap.size + 1, k, none⟩ = false := frozen_of_row _ _ _ _ _ h1.out
      clear hl
      generalize xs.getD k 0 = x at *
      generalize ys.getD k 0 = y at *
      generalize (fillTo 44 col k).getD k 0 = z at *
      by_cases hxy : x < y
      · have hxy' : decide (x < y) = true := by simpa using hxy
        have e1 : IntKind.i16.wrap (y - x) = y - x := IntWalk.i16_in _ (by omega)
        have HV := hid (HCO.out.trans (show shrt x y = y - x by unfold shrt; rw [if_neg (by omega)]))
        rw [HV.out] at HSET
        have hb0 : (0 : Int) ≤ k := by omega
        have hb1 : (k : Int) < 40 := by omega
        clear HCO HSK HV hxy
        go_wp2_with fail
        go_quiet (fail)
        go_wp2_with fail
        go_region
        all_goals
          go_wp2_with fail
          go_roundw
          case rel => exact ⟨k + 1, by omega, by go_num, hid ((hg.out.setCell (by dsimp only; omega) _).drewN _), hid (heap_stored (by dsimp only; omega) h0.out), hid (by rw [← HSET.out]; exact heap_int_set h1.out)⟩
          case measure => simp [intOf]; omega
      · have hxy' : decide (x < y) = false := by simpa using hxy
        have HSK' := hid (HSK.out (HCO.out.trans (show shrt x y = 0 by unfold shrt; split <;> omega)))
        have hb0 : (0 : Int) ≤ k := by omega
        have hb1 : (k : Int) < 40 := by omega
        clear HCO HSK HSET hxy
        go_wp2_with fail
        go_quiet (fail)
        go_wp2_with fail
        go_roundw
        case rel => exact ⟨k + 1, by omega, by go_num, hid (hg.out.drewN _), h0, hid (by rw [HSK'.out]; exact h1.out)⟩
        case measure => simp [intOf]; omega
    · obtain rfl : k = 40 := by omega
      obtain ⟨wo, hwo⟩ : ∃ wo : World, wo = wr := ⟨_, rfl⟩
      rw [← hwo] at hg h0 h1 ⊢
      clear hwo
      go_wp2_with fail
      go_loopw [7] (fun i wr => ∃ j : Nat, j ≤ 4 ∧ i = .int .i64 j ∧ Hid (Gr w wr) ∧ Hid (wr.heap[w.heap.size]? = some (.cells (kCells .i16 zeros44) 28 (0, 0))) ∧ Hid (wr.heap[w.heap.size + 1]? = some (.cells (kCells .i16 (fillTo 44 col (40 + j))) 28 (0, 0)))) (fun i _ => 4 - (intOf i).toNat)
      case atStart => exact ⟨0, Nat.zero_le _, rfl, hg, h0, h1⟩
      case round =>
        obtain ⟨j, hj, rfl, hg, h0, h1⟩ := hrel
        by_cases hltj : j < 4
        · have hcx := hg.out.cell (HX.out (40 + j) (by omega))
          have hcy := hg.out.cell (HY.out (40 + j) (by omega))
          obtain ⟨x0, x1⟩ := lockB_get VX.out (40 + j)
          obtain ⟨y0, y1⟩ := lockB_get VY.out (40 + j)
          have HCO := hid (HCOL.out (40 + j))
          have HSET := hid (fillTo_set 44 col (40 + j) (by omega))
          have HSK := hid (fillTo_skip (n := 44) (col := col) (k := (40 + j)) (by omega))
          have hl := fillTo_length 44 col (40 + j) (by omega)
          have hc1 := cell_ints h1.out (i := (40 + j)) (by omega)
          have hf1 : wr.frozen? ⟨w.heap.size + 1, (40 + j), none⟩ = false := frozen_of_row _ _ _ _ _ h1.out
          clear hl
          generalize xs.getD (40 + j) 0 = x at *
          generalize ys.getD (40 + j) 0 = y at *
          generalize (fillTo 44 col (40 + j)).getD (40 + j) 0 = z at *
          by_cases hxy : x < y
          · have hxy' : decide (x < y) = true := by simpa using hxy
            have e1 : IntKind.i16.wrap (y - x) = y - x := IntWalk.i16_in _ (by omega)
            have HV := hid (HCO.out.trans (show shrt x y = y - x by unfold shrt; rw [if_neg (by omega)]))
            rw [HV.out] at HSET
            have hb0 : (0 : Int) ≤ j := by omega
            have hb1 : (j : Int) < 4 := by omega
            clear HCO HSK HV hxy
            go_wp2_with fail
            go_quiet (fail)
            go_wp2_with fail
            go_region
            all_goals
              go_wp2_with fail
              go_roundw
              case rel => exact ⟨j + 1, by omega, by go_num, hid ((hg.out.setCell (by dsimp only; omega) _).drewN _), hid (heap_stored (by dsimp only; omega) h0.out), hid (by rw [← Nat.add_assoc, ← HSET.out]; exact heap_int_set h1.out)⟩
              case measure => simp [intOf]; omega
          · have hxy' : decide (x < y) = false := by simpa using hxy
            have HSK' := hid (HSK.out (HCO.out.trans (show shrt x y = 0 by unfold shrt; split <;> omega)))
            have hb0 : (0 : Int) ≤ j := by omega
            have hb1 : (j : Int) < 4 := by omega
            clear HCO HSK HSET hxy
            go_wp2_with fail
            go_quiet (fail)
            go_wp2_with fail
            go_roundw
            case rel => exact ⟨j + 1, by omega, by go_num, hid (hg.out.drewN _), h0, hid (by rw [← Nat.add_assoc, HSK'.out]; exact h1.out)⟩
            case measure => simp [intOf]; omega
        · obtain rfl : j = 4 := by omega
          have HLF := hid (fillTo_length 44 col 44 (Nat.le_refl _))
          go_wp2_with (first | (refine wpList_load_struct rfl 28 _ rfl _ rfl _ (kCells .i16 (fillTo 44 col 44)) _ h1.out Try.underlying28 rfl (by rw [kCells_size, HLF.out]; kernel_rfl) ?_) | (refine wpList_store_cells rfl 28 _ _ rfl _ (kCells .i16 (fillTo 44 col 44)) (kCells .i16 zeros44) rfl rfl _ 44 h0.out (by kernel_rfl) (by rw [kCells_size, HLF.out]) rfl (kCells_one _ _) ?_))
          refine bodyPost_ret (results_cell_row (by rfl) _ _ _ _ _ _ _ rfl (heap_row_set h0.out) Try.underlying28 rfl (by rw [kCells_size, HLF.out]; kernel_rfl)) rfl ⟨by rw [HALL.out], ?_⟩
          exact hg.out.setRow (by omega) _
end Go.Proofs.Ytaedompacmdacaa
