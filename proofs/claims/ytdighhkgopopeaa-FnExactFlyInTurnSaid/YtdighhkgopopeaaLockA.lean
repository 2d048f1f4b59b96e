/- Lockers: copies, comparisons; what the model says is valid. -/
import Derived.Test.YtdighhkgopopeaaLock
namespace Go.Proofs.Ytdighhkgopopeaa
set_option linter.unusedVariables false
open Go.RowKit
set_option maxRecDepth 100000 in
theorem toInt16A40_any (xs : List Int) (hl : xs.length = 40) (w : World) :
    Calls Try.prog 26 #[.agg (kCells .i16 xs)] w fun e w' => e = .returned (.agg (kCells .i16 xs)) ∧ Gr w w' := by
  have HL := hid hl
  clear hl
  go_enter Try.func26, Try.ntmps26
  go_wp2_with fail
  go_loopw [4] (fun i wr => ∃ k : Nat, k ≤ 40 ∧ i = .int .i64 k ∧ Hid (Gr w wr) ∧ Hid (wr.heap[w.heap.size]? = some (.cells (kCells .i16 xs) 23 (0, 0))) ∧ Hid (wr.heap[w.heap.size + 1]? = some (.cells (kCells .i16 (List.replicate 40 0)) 23 (0, 0))) ∧ Hid (wr.heap[w.heap.size + 1 + 1]? = some (.cells (kCells .i16 (fillTo 40 (fun i => xs.getD i 0) k)) 23 (0, 0)))) (fun i _ => 40 - (intOf i).toNat)
  case atStart => exact ⟨0, Nat.zero_le _, rfl, hid ((((Gr.refl _).alloc _).alloc _).alloc _), hid (heap_kept (heap_kept (heap_new rfl))), hid (heap_kept (heap_new (by simp))), hid (by rw [fillTo_zero]; exact heap_new (by simp))⟩
  case round =>
    obtain ⟨k, hk, rfl, hg, h0, h1, h2⟩ := hrel
    by_cases hlt : k < 40
    · have hc0 := cell_ints h0.out (i := k) (by rw [HL.out]; exact hlt)
      have hl2 := fillTo_length 40 (fun i => xs.getD i 0) k hk
      have hc2 := cell_ints h2.out (i := k) (by omega)
      have hf2 : wr.frozen? ⟨w.heap.size + 1 + 1, k, none⟩ = false := frozen_of_row _ _ _ _ _ h2.out
      have HSET := hid (fillTo_set 40 (fun i => xs.getD i 0) k hlt)
      clear hl2
      generalize (fillTo 40 (fun i => xs.getD i 0) k).getD k 0 = y at *
      generalize xs.getD k 0 = v at *
      go_wp2_with fail
      go_roundw
      case rel => exact ⟨k + 1, by omega, by go_num, hid (hg.out.setCell (by dsimp only; omega) _), hid (heap_stored (by dsimp only; omega) h0.out), hid (heap_stored (by dsimp only; omega) h1.out), hid (by rw [← HSET.out]; exact heap_int_set h2.out)⟩
      case measure => simp [intOf]; omega
    · have hkn : k = 40 := by omega
      have hend : fillTo 40 (fun i => xs.getD i 0) k = xs := by rw [hkn, fillTo_all]; have := map_getD_range xs; rw [HL.out] at this; exact this
      have H2 : Hid (wr.heap[w.heap.size + 1 + 1]? = some (.cells (kCells .i16 xs) 23 (0, 0))) := by rw [← hend]; exact h2
      clear hend h2 hkn
      go_wp2_with (first | (refine wpList_load_cells rfl 23 _ rfl _ rfl _ (kCells .i16 xs) _ 40 H2.out Try.underlying23 (by kernel_rfl) (by rw [kCells_size, HL.out]) ?_) | (refine wpList_store_cells rfl 23 _ _ rfl _ (kCells .i16 xs) (kCells .i16 (List.replicate 40 0)) rfl rfl _ 40 h1.out (by kernel_rfl) (by rw [kCells_size, HL.out]) (by rw [kCells_size]; rfl) (kCells_one _ _) ?_))
      refine bodyPost_ret (v := .agg (kCells .i16 xs)) (results_cell_row (by rfl) _ _ _ _ _ _ _ rfl (heap_row_set h1.out) Try.underlying23 rfl (by rw [kCells_size, HL.out]; kernel_rfl)) rfl ⟨rfl, ?_⟩
      exact hg.out.setRow (by omega) _
set_option maxRecDepth 100000 in
theorem toInt16A4_any (xs : List Int) (hl : xs.length = 4) (w : World) :
    Calls Try.prog 27 #[.agg (kCells .i16 xs)] w fun e w' => e = .returned (.agg (kCells .i16 xs)) ∧ Gr w w' := by
  have HL := hid hl
  clear hl
  go_enter Try.func27, Try.ntmps27
  go_wp2_with fail
  go_loopw [4] (fun i wr => ∃ k : Nat, k ≤ 4 ∧ i = .int .i64 k ∧ Hid (Gr w wr) ∧ Hid (wr.heap[w.heap.size]? = some (.cells (kCells .i16 xs) 24 (0, 0))) ∧ Hid (wr.heap[w.heap.size + 1]? = some (.cells (kCells .i16 (List.replicate 4 0)) 24 (0, 0))) ∧ Hid (wr.heap[w.heap.size + 1 + 1]? = some (.cells (kCells .i16 (fillTo 4 (fun i => xs.getD i 0) k)) 24 (0, 0)))) (fun i _ => 4 - (intOf i).toNat)
  case atStart => exact ⟨0, Nat.zero_le _, rfl, hid ((((Gr.refl _).alloc _).alloc _).alloc _), hid (heap_kept (heap_kept (heap_new rfl))), hid (heap_kept (heap_new (by simp))), hid (by rw [fillTo_zero]; exact heap_new (by simp))⟩
  case round =>
    obtain ⟨k, hk, rfl, hg, h0, h1, h2⟩ := hrel
    by_cases hlt : k < 4
    · have hc0 := cell_ints h0.out (i := k) (by rw [HL.out]; exact hlt)
      have hl2 := fillTo_length 4 (fun i => xs.getD i 0) k hk
      have hc2 := cell_ints h2.out (i := k) (by omega)
      have hf2 : wr.frozen? ⟨w.heap.size + 1 + 1, k, none⟩ = false := frozen_of_row _ _ _ _ _ h2.out
      have HSET := hid (fillTo_set 4 (fun i => xs.getD i 0) k hlt)
      clear hl2
      generalize (fillTo 4 (fun i => xs.getD i 0) k).getD k 0 = y at *
      generalize xs.getD k 0 = v at *
      go_wp2_with fail
      go_roundw
      case rel => exact ⟨k + 1, by omega, by go_num, hid (hg.out.setCell (by dsimp only; omega) _), hid (heap_stored (by dsimp only; omega) h0.out), hid (heap_stored (by dsimp only; omega) h1.out), hid (by rw [← HSET.out]; exact heap_int_set h2.out)⟩
      case measure => simp [intOf]; omega
    · have hkn : k = 4 := by omega
      have hend : fillTo 4 (fun i => xs.getD i 0) k = xs := by rw [hkn, fillTo_all]; have := map_getD_range xs; rw [HL.out] at this; exact this
      have H2 : Hid (wr.heap[w.heap.size + 1 + 1]? = some (.cells (kCells .i16 xs) 24 (0, 0))) := by rw [← hend]; exact h2
      clear hend h2 hkn
      go_wp2_with (first | (refine wpList_load_cells rfl 24 _ rfl _ rfl _ (kCells .i16 xs) _ 4 H2.out Try.underlying24 (by kernel_rfl) (by rw [kCells_size, HL.out]) ?_) | (refine wpList_store_cells rfl 24 _ _ rfl _ (kCells .i16 xs) (kCells .i16 (List.replicate 4 0)) rfl rfl _ 4 h1.out (by kernel_rfl) (by rw [kCells_size, HL.out]) (by rw [kCells_size]; rfl) (kCells_one _ _) ?_))
      refine bodyPost_ret (v := .agg (kCells .i16 xs)) (results_cell_row (by rfl) _ _ _ _ _ _ _ rfl (heap_row_set h1.out) Try.underlying24 rfl (by rw [kCells_size, HL.out]; kernel_rfl)) rfl ⟨rfl, ?_⟩
      exact hg.out.setRow (by omega) _
theorem locker_join {xs zs : List Int} (h : xs.length = 44) (hz : zs.length = 44) :
    (zs.take 0 ++ xs.take 40 ++ zs.drop (0 + (xs.take 40).length)).take 40 ++ (xs.drop 40).take 4 ++ (zs.take 0 ++ xs.take 40 ++ zs.drop (0 + (xs.take 40).length)).drop (40 + ((xs.drop 40).take 4).length) = xs := by
  have h1 : (xs.take 40).length = 40 := by simp [h]
  have h2 : ((xs.drop 40).take 4).length = 4 := by simp [h]
  have h3 : (xs.drop 40).take 4 = xs.drop 40 := List.take_of_length_le (by simp [h])
  have h4 : (List.take 40 xs ++ List.drop (0 + 40) zs).drop (40 + 4) = [] := List.drop_eq_nil_of_le (by simp [h, hz])
  rw [h1, h2, h3, List.take_zero, List.nil_append, h4, List.take_append_of_le_length (by omega), List.take_of_length_le (by omega), List.append_nil, List.take_append_drop]
def zeros44 : List Int := List.replicate 44 0
set_option maxRecDepth 100000 in
set_option maxHeartbeats 2000000 in
theorem toLocker_any (xs : List Int) (hl : xs.length = 44) (w : World) :
    Calls Try.prog 6 #[.agg (kCells .i16 xs)] w fun e w' => e = .returned (.agg (kCells .i16 xs)) ∧ Gr w w' := by
  have L := hid hl
  have HA := hid (toInt16A40_any (xs.take 40) (by simp [hl]))
  have HB := hid (toInt16A4_any ((xs.drop 40).take 4) (by simp [hl]))
  have L1 := hid (show (xs.take 40).length = 40 by simp [hl])
  have L2 := hid (show ((xs.drop 40).take 4).length = 4 by simp [hl])
  clear hl
  have b0 : Hid ((((w.alloc (.cells (kCells .i16 xs) 26)).alloc (.cells (kCells .i16 zeros44) 31)).alloc (.cells (kCells .i16 zeros44) 31)).heap[w.heap.size]? = some (.cells (kCells .i16 xs) 26 (0, 0))) := hid (heap_kept (heap_kept (heap_new rfl)))
  have b1 : Hid ((((w.alloc (.cells (kCells .i16 xs) 26)).alloc (.cells (kCells .i16 zeros44) 31)).alloc (.cells (kCells .i16 zeros44) 31)).heap[w.heap.size + 1]? = some (.cells (kCells .i16 zeros44) 31 (0, 0))) := hid (heap_kept (heap_new (by simp)))
  have b2 : Hid ((((w.alloc (.cells (kCells .i16 xs) 26)).alloc (.cells (kCells .i16 zeros44) 31)).alloc (.cells (kCells .i16 zeros44) 31)).heap[w.heap.size + 1 + 1]? = some (.cells (kCells .i16 zeros44) 31 (0, 0))) := hid (heap_new (by simp))
  have gr : Hid (Gr w (((w.alloc (.cells (kCells .i16 xs) 26)).alloc (.cells (kCells .i16 zeros44) 31)).alloc (.cells (kCells .i16 zeros44) 31))) := hid ((((Gr.refl _).alloc _).alloc _).alloc _)
  go_enter Try.func6, Try.ntmps6
  go_wp2_with (refine wpList_load_part rfl 23 _ rfl w.heap.size 0 40 rfl xs _ _ (0, 0) b0.out (by rw [L.out]; omega) Try.underlying23 (by kernel_rfl) ?_)
  refine (HA.out _).mono ?_
  rintro e W1 ⟨rfl, g1⟩
  replace b0 := hid (g1.heap b0.out)
  replace b1 := hid (g1.heap b1.out)
  replace b2 := hid (g1.heap b2.out)
  replace gr := hid (gr.out.trans g1)
  clear g1
  obtain ⟨W2, hW2⟩ : ∃ W2, W2 = W1.setCells (w.heap.size + 1 + 1) 0 ((xs.take 40).map (Value.int .i16)) := ⟨_, rfl⟩
  have c0 : Hid (W2.heap[w.heap.size]? = some (.cells (kCells .i16 xs) 26 (0, 0))) := hid (by rw [hW2]; exact heap_setCells_kept (by omega) _ _ _ b0.out)
  have c1 : Hid (W2.heap[w.heap.size + 1]? = some (.cells (kCells .i16 zeros44) 31 (0, 0))) := hid (by rw [hW2]; exact heap_setCells_kept (by omega) _ _ _ b1.out)
  have c2 : Hid (W2.heap[w.heap.size + 1 + 1]? = some (.cells (kCells .i16 (zeros44.take 0 ++ xs.take 40 ++ zeros44.drop (0 + (xs.take 40).length))) 31 (0, 0))) := hid (by rw [hW2]; exact heap_ints_setCells (xs.take 40) 0 _ _ b2.out (by rw [L1.out]; decide))
  have gr2 : Hid (Gr w W2) := hid (by rw [hW2]; exact Gr.setCells (W := w) (by omega) _ _ _ gr.out)
  go_wp2_with (first | (refine wpList_store_part rfl 23 _ _ rfl (w.heap.size + 1 + 1) 0 40 (xs.take 40) rfl rfl zeros44 _ b2.out (by decide) L1.out (by kernel_rfl) ?_; rw [← hW2]; clear hW2 b0 b1 b2 gr) | (refine wpList_load_part rfl 24 _ rfl w.heap.size 40 4 rfl xs _ _ (0, 0) c0.out (by rw [L.out]; omega) Try.underlying24 (by kernel_rfl) ?_))
  refine (HB.out _).mono ?_
  rintro e W3 ⟨rfl, g1⟩
  replace c0 := hid (g1.heap c0.out)
  replace c1 := hid (g1.heap c1.out)
  replace c2 := hid (g1.heap c2.out)
  replace gr2 := hid (gr2.out.trans g1)
  clear g1
  obtain ⟨W4, hW4⟩ : ∃ W4, W4 = W3.setCells (w.heap.size + 1 + 1) 40 (((xs.drop 40).take 4).map (Value.int .i16)) := ⟨_, rfl⟩
  have d1 : Hid (W4.heap[w.heap.size + 1]? = some (.cells (kCells .i16 zeros44) 31 (0, 0))) := hid (by rw [hW4]; exact heap_setCells_kept (by omega) _ _ _ c1.out)
  have d2 : Hid (W4.heap[w.heap.size + 1 + 1]? = some (.cells (kCells .i16 xs) 31 (0, 0))) := hid (by
    rw [hW4]
    have := heap_ints_setCells ((xs.drop 40).take 4) 40 _ _ c2.out (by simp [L.out, zeros44])
    rw [locker_join L.out rfl] at this
    exact this)
  have gr3 : Hid (Gr w W4) := hid (by rw [hW4]; exact Gr.setCells (W := w) (by omega) _ _ _ gr2.out)
  go_wp2_with (first | (refine wpList_store_part rfl 24 _ _ rfl (w.heap.size + 1 + 1) 40 4 ((xs.drop 40).take 4) rfl rfl _ _ c2.out (by simp [L.out, zeros44]) L2.out (by kernel_rfl) ?_; rw [← hW4]; clear hW4 c0 c1 c2 gr2) | (refine wpList_load_struct rfl 31 _ rfl _ rfl _ (kCells .i16 xs) _ d2.out Try.underlying31 rfl (by rw [kCells_size, L.out]; kernel_rfl) ?_) | (refine wpList_store_cells rfl 31 _ _ rfl _ (kCells .i16 xs) (kCells .i16 zeros44) rfl rfl _ 44 d1.out (by kernel_rfl) (by rw [kCells_size, L.out]) rfl (kCells_one _ _) ?_))
  refine bodyPost_ret (results_cell_row (by rfl) _ _ _ _ _ _ _ rfl (heap_row_set d1.out) Try.underlying31 rfl (by rw [kCells_size, L.out]; kernel_rfl)) rfl ⟨rfl, ?_⟩
  exact gr3.out.setRow (by omega) _
set_option maxRecDepth 100000 in
theorem l00In_lk (x : Int) (w : World) :
    Calls Try.prog 36 #[.int .i64 x, .int .i64 0, .int .i64 20] w fun e w' => e = .returned (.bool (lkB x)) ∧ w = w' := by
  by_cases h1 : 0 ≤ x
  · have d1 : decide (0 ≤ x) = true := by simpa using h1
    go_enter Try.func36, Try.ntmps36
    go_wp2
    go_ret
    exact ⟨ret_bool (by simp [lkB, h1]), rfl⟩
  · have d1 : decide (0 ≤ x) = false := by simpa using h1
    go_enter Try.func36, Try.ntmps36
    go_wp2
    go_ret
    exact ⟨ret_bool (by unfold lkB; rw [d1]; rfl), rfl⟩
set_option maxRecDepth 100000 in
set_option maxHeartbeats 1000000 in
theorem l04Ok_any (b : Nat) (t : TypeId) (xs : List Int) (hl : xs.length = 44) (hf : Fits .i16 xs) (w : World) (hb : w.heap[b]? = some (.cells (kCells .i16 xs) t (0, 0))) :
    Calls Try.prog 23 #[.pointer (some ⟨b, 0, none⟩)] w fun e w' => e = .returned (.bool (lockB xs)) ∧ w = w' := by
  have L := hid hl
  have HF := hid hf
  have HC := hid (fun k (hk : k < 44) => cell_ints hb (i := k) (by rw [hl]; exact hk))
  clear hl hf hb
  go_enter Try.func23, Try.ntmps23
  go_wp2_with fail
  go_loop [3] (fun i => ∃ k : Nat, k ≤ 40 ∧ i = .int .i64 k ∧ Hid (lockB (xs.take k) = true)) (fun i => 40 - (intOf i).toNat)
  case atStart => exact ⟨0, Nat.zero_le _, rfl, hid (lockB_zero xs)⟩
  case round =>
    obtain ⟨k, hk, rfl, hok⟩ := hrel
    by_cases hlt : k < 40
    · have hc0 := HC.out k (by omega)
      have hs := lockB_succ (xs := xs) (k := k) (by rw [L.out]; omega) hok.out
      have hn := lockB_no (xs := xs) (k := k) (by rw [L.out]; omega)
      obtain ⟨hx0, hx1⟩ := HF.out.get16 k
      have HS := hid hs
      have HNO := hid hn
      clear hs hn
      generalize xs.getD k 0 = x at *
      cases hx : lkB x with
      | true =>
        go_wp2_with (refine (l00In_lk _ _).mono ?_; rintro e w' ⟨rfl, rfl⟩)
        go_round
        case rel => exact ⟨k + 1, by omega, by go_num, hid (HS.out hx)⟩
        case measure => simp [intOf]; omega
      | false =>
        have HV := hid (HNO.out hx)
        clear HNO HS
        go_wp2_with (refine (l00In_lk _ _).mono ?_; rintro e w' ⟨rfl, rfl⟩)
        go_ret
        exact ⟨ret_bool HV.out.symm, rfl⟩
    · have hk40 : k = 40 := by omega
      have H40 : Hid (lockB (xs.take 40) = true) := by rw [← hk40]; exact hok
      clear hok hk40
      go_wp2_with fail
      go_loop [4] (fun i => ∃ j : Nat, j ≤ 4 ∧ i = .int .i64 j ∧ Hid (lockB (xs.take (40 + j)) = true)) (fun i => 4 - (intOf i).toNat)
      case atStart => exact ⟨0, Nat.zero_le _, rfl, H40⟩
      case round =>
        obtain ⟨j, hj, rfl, hok⟩ := hrel
        by_cases hlt2 : j < 4
        · have hc0 := HC.out (40 + j) (by omega)
          have hs := lockB_succ (xs := xs) (k := 40 + j) (by rw [L.out]; omega) hok.out
          have hn := lockB_no (xs := xs) (k := 40 + j) (by rw [L.out]; omega)
          obtain ⟨hx0, hx1⟩ := HF.out.get16 (40 + j)
          have HS := hid hs
          have HNO := hid hn
          clear hs hn
          generalize xs.getD (40 + j) 0 = x at *
          cases hx : lkB x with
          | true =>
            go_wp2_with (refine (l00In_lk _ _).mono ?_; rintro e w' ⟨rfl, rfl⟩)
            go_round
            case rel => exact ⟨j + 1, by omega, by go_num, hid (HS.out hx)⟩
            case measure => simp [intOf]; omega
          | false =>
            have HV := hid (HNO.out hx)
            clear HNO HS
            go_wp2_with (refine (l00In_lk _ _).mono ?_; rintro e w' ⟨rfl, rfl⟩)
            go_ret
            exact ⟨ret_bool HV.out.symm, rfl⟩
        · have hv : lockB xs = true := lockB_all (k := 40 + j) (by rw [L.out]; omega) hok.out
          have HV := hid hv
          clear hv hok
          go_wp2_with fail
          go_ret
          exact ⟨ret_bool HV.out.symm, rfl⟩
end Go.Proofs.Ytdighhkgopopeaa
