/- EvenLocker: the functions. -/
import Derived.Test.YtaedompacmdacaaLockI
import Derived.Stop.RegionWithIn
namespace Go.Proofs.Ytaedompacmdacaa
open Go.RowKit
attribute [local go_sem] Oper.semAt_some
def inE (a b i : Nat) : Bool := if i < 40 then decide (i < a) else decide (i - 40 < b)
def colE (s : Int) (a b i : Nat) : Int := if inE a b i then s else 0
def rgB (n a b : Int) : Bool := decide (a ≤ n) && decide (n ≤ b)
theorem rgB_iff {n a b : Int} : rgB n a b = true ↔ a ≤ n ∧ n ≤ b := by simp [rgB]
def evB (s k b : Int) : Bool := rgB s 0 20 && (rgB k 0 40 && rgB b 0 4)
def evV (s k b : Int) : List Int := if evB s k b then fillTo 44 (colE s k.toNat b.toNat) 44 else zeros44
def evC (s k b : Int) : Int := if evB s k b then 0 else 2
theorem evV_length (s k b : Int) : (evV s k b).length = 44 := by
  unfold evV
  split
  · exact fillTo_length _ _ _ (Nat.le_refl _)
  · rfl
theorem ev_yes {s k b : Int} (h : evB s k b = true) : evV s k b = fillTo 44 (colE s k.toNat b.toNat) 44 ∧ evC s k b = 0 := by unfold evV evC; rw [h]; exact ⟨rfl, rfl⟩
theorem ev_no {s k b : Int} (h : evB s k b = false) : evV s k b = zeros44 ∧ evC s k b = 2 := by unfold evV evC; rw [h]; exact ⟨rfl, rfl⟩
set_option maxRecDepth 100000 in
theorem l00In_r {n a b : Int} {r : Bool} (h : rgB n a b = r) (w : World) :
    Calls Try.prog 57 #[.int .i64 n, .int .i64 a, .int .i64 b] w fun e w' => e = .returned (.bool r) ∧ w = w' := by
  have H := hid h
  clear h
  by_cases h1 : a ≤ n
  · have d1 : decide (a ≤ n) = true := by simpa using h1
    go_enter Try.func57, Try.ntmps57
    go_wp2
    go_ret
    exact ⟨ret_bool (by rw [← H.out]; simp [rgB, h1]), rfl⟩
  · have d1 : decide (a ≤ n) = false := by simpa using h1
    go_enter Try.func57, Try.ntmps57
    go_wp2
    go_ret
    exact ⟨ret_bool (by rw [← H.out]; unfold rgB; rw [d1]; rfl), rfl⟩
abbrev lockerZ : Obj := .cells (kCells .i16 zeros44) 28
set_option maxHeartbeats 4000000 in
set_option maxRecDepth 100000 in
theorem spec_EvenLocker_any (s k b : Int) (w : World) :
    Calls Try.prog 18 #[.int .i64 s, .int .i64 k, .int .i64 b] w fun e w' => e = .returned (.tuple #[.agg (kCells .i16 (evV s k b)), .int .i64 (evC s k b)]) ∧ Gr w w' := by
  have b0 : Hid (((w.alloc lockerZ).alloc lockerZ).heap[w.heap.size]? = some (.cells (kCells .i16 zeros44) 28 (0, 0))) := hid (heap_kept (heap_new rfl))
  have b1 : Hid (((w.alloc lockerZ).alloc lockerZ).heap[w.heap.size + 1]? = some (.cells (kCells .i16 zeros44) 28 (0, 0))) := hid (heap_new (by simp))
  have gr : Hid (Gr w ((w.alloc lockerZ).alloc lockerZ)) := hid (((Gr.refl _).alloc _).alloc _)
  cases hs : rgB s 0 20 with
  | false =>
    have hev : evB s k b = false := by unfold evB; rw [hs]; rfl
    rw [(ev_no hev).1, (ev_no hev).2]
    have HS := hid (l00In_r hs)
    clear hs
    clear hev
    go_enter Try.func18, Try.ntmps18
    go_wp2_with (first | (refine wpList_build_to rfl 28 rfl built_locker ?_) | (refine wpList_store_cells rfl 28 _ _ rfl _ (kCells .i16 zeros44) (kCells .i16 zeros44) rfl rfl _ 44 b1.out (by kernel_rfl) rfl rfl (kCells_one _ _) ?_; generalize hW : World.setRow _ _ (kCells .i16 zeros44) = W2))
    have c0 : Hid (W2.heap[w.heap.size]? = some (.cells (kCells .i16 zeros44) 28 (0, 0))) := hid (by rw [← hW]; exact heap_row_kept (by omega) b0.out)
    have c1 : Hid (W2.heap[w.heap.size + 1]? = some (.cells (kCells .i16 zeros44) 28 (0, 0))) := hid (by rw [← hW]; exact heap_row_set b1.out)
    have gr2 : Hid (Gr w W2) := hid (by rw [← hW]; exact gr.out.setRow (by omega) _)
    clear hW b0 b1 gr
    go_wp2_with (first | ((with_reducible refine (HS.out _).mono ?_); rintro e w' ⟨rfl, rfl⟩) | (refine wpList_load_struct rfl 28 _ rfl _ rfl _ (kCells .i16 zeros44) _ c1.out Try.underlying28 rfl (by kernel_rfl) ?_) | (refine wpList_store_cells rfl 28 _ _ rfl _ (kCells .i16 zeros44) (kCells .i16 zeros44) rfl rfl _ 44 c0.out (by kernel_rfl) rfl rfl (kCells_one _ _) ?_))
    refine bodyPost_ret (results_struct2 (by rfl) _ _ _ _ _ _ _ rfl rfl (heap_row_set c0.out) Try.underlying28 rfl (by kernel_rfl)) rfl ⟨rfl, ?_⟩
    exact gr2.out.setRow (by omega) _
  | true =>
    cases hk : rgB k 0 40 with
    | false =>
      have hev : evB s k b = false := by unfold evB; rw [hs, hk]; rfl
      rw [(ev_no hev).1, (ev_no hev).2]
      have HS := hid (l00In_r hs)
      have HK := hid (l00In_r hk)
      clear hs hk
      clear hev
      go_enter Try.func18, Try.ntmps18
      go_wp2_with (first | (refine wpList_build_to rfl 28 rfl built_locker ?_) | (refine wpList_store_cells rfl 28 _ _ rfl _ (kCells .i16 zeros44) (kCells .i16 zeros44) rfl rfl _ 44 b1.out (by kernel_rfl) rfl rfl (kCells_one _ _) ?_; generalize hW : World.setRow _ _ (kCells .i16 zeros44) = W2))
      have c0 : Hid (W2.heap[w.heap.size]? = some (.cells (kCells .i16 zeros44) 28 (0, 0))) := hid (by rw [← hW]; exact heap_row_kept (by omega) b0.out)
      have c1 : Hid (W2.heap[w.heap.size + 1]? = some (.cells (kCells .i16 zeros44) 28 (0, 0))) := hid (by rw [← hW]; exact heap_row_set b1.out)
      have gr2 : Hid (Gr w W2) := hid (by rw [← hW]; exact gr.out.setRow (by omega) _)
      clear hW b0 b1 gr
      go_wp2_with (first | ((with_reducible refine (HS.out _).mono ?_); rintro e w' ⟨rfl, rfl⟩) | ((with_reducible refine (HK.out _).mono ?_); rintro e w' ⟨rfl, rfl⟩) | (refine wpList_load_struct rfl 28 _ rfl _ rfl _ (kCells .i16 zeros44) _ c1.out Try.underlying28 rfl (by kernel_rfl) ?_) | (refine wpList_store_cells rfl 28 _ _ rfl _ (kCells .i16 zeros44) (kCells .i16 zeros44) rfl rfl _ 44 c0.out (by kernel_rfl) rfl rfl (kCells_one _ _) ?_))
      refine bodyPost_ret (results_struct2 (by rfl) _ _ _ _ _ _ _ rfl rfl (heap_row_set c0.out) Try.underlying28 rfl (by kernel_rfl)) rfl ⟨rfl, ?_⟩
      exact gr2.out.setRow (by omega) _
    | true =>
      cases hb : rgB b 0 4 with
      | false =>
        have hev : evB s k b = false := by unfold evB; rw [hs, hk, hb]; rfl
        rw [(ev_no hev).1, (ev_no hev).2]
        have HS := hid (l00In_r hs)
        have HK := hid (l00In_r hk)
        have HB := hid (l00In_r hb)
        clear hs hk hb
        clear hev
        go_enter Try.func18, Try.ntmps18
        go_wp2_with (first | (refine wpList_build_to rfl 28 rfl built_locker ?_) | (refine wpList_store_cells rfl 28 _ _ rfl _ (kCells .i16 zeros44) (kCells .i16 zeros44) rfl rfl _ 44 b1.out (by kernel_rfl) rfl rfl (kCells_one _ _) ?_; generalize hW : World.setRow _ _ (kCells .i16 zeros44) = W2))
        have c0 : Hid (W2.heap[w.heap.size]? = some (.cells (kCells .i16 zeros44) 28 (0, 0))) := hid (by rw [← hW]; exact heap_row_kept (by omega) b0.out)
        have c1 : Hid (W2.heap[w.heap.size + 1]? = some (.cells (kCells .i16 zeros44) 28 (0, 0))) := hid (by rw [← hW]; exact heap_row_set b1.out)
        have gr2 : Hid (Gr w W2) := hid (by rw [← hW]; exact gr.out.setRow (by omega) _)
        clear hW b0 b1 gr
        go_wp2_with (first | ((with_reducible refine (HS.out _).mono ?_); rintro e w' ⟨rfl, rfl⟩) | ((with_reducible refine (HK.out _).mono ?_); rintro e w' ⟨rfl, rfl⟩) | ((with_reducible refine (HB.out _).mono ?_); rintro e w' ⟨rfl, rfl⟩) | (refine wpList_load_struct rfl 28 _ rfl _ rfl _ (kCells .i16 zeros44) _ c1.out Try.underlying28 rfl (by kernel_rfl) ?_) | (refine wpList_store_cells rfl 28 _ _ rfl _ (kCells .i16 zeros44) (kCells .i16 zeros44) rfl rfl _ 44 c0.out (by kernel_rfl) rfl rfl (kCells_one _ _) ?_))
        refine bodyPost_ret (results_struct2 (by rfl) _ _ _ _ _ _ _ rfl rfl (heap_row_set c0.out) Try.underlying28 rfl (by kernel_rfl)) rfl ⟨rfl, ?_⟩
        exact gr2.out.setRow (by omega) _
      | true =>
        have hev : evB s k b = true := by unfold evB; rw [hs, hk, hb]; rfl
        rw [(ev_yes hev).1, (ev_yes hev).2]
        obtain ⟨s0, s1⟩ := rgB_iff.1 hs
        obtain ⟨k0, k1⟩ := rgB_iff.1 hk
        obtain ⟨b00, b01⟩ := rgB_iff.1 hb
        have HS := hid (l00In_r hs)
        have HK := hid (l00In_r hk)
        have HB := hid (l00In_r hb)
        clear hev hs hk hb
        obtain ⟨a, rfl⟩ := Int.eq_ofNat_of_zero_le k0
        obtain ⟨c, rfl⟩ := Int.eq_ofNat_of_zero_le b00
        rw [Int.toNat_natCast, Int.toNat_natCast]
        have ha : a ≤ 40 := by omega
        have hc4 : c ≤ 4 := by omega
        clear k0 k1 b00 b01
        have HC1 := hid (fun i (h : i < a) => show colE s a c i = s by unfold colE inE; rw [if_pos (by omega : i < 40), decide_eq_true h]; rfl)
        have HC2 := hid (fun i (h : i < c) => show colE s a c (40 + i) = s by unfold colE inE; rw [if_neg (by omega : ¬ 40 + i < 40), decide_eq_true (by omega : 40 + i - 40 < c)]; rfl)
        have HZ1 := hid (fillTo_skips (n := 44) (col := colE s a c) (a := a) (b := 40) ha (by omega) (fun i h1 h2 => by unfold colE inE; rw [if_pos h2, decide_eq_false (by omega)]; rfl))
        have HZ2 := hid (fillTo_skips (n := 44) (col := colE s a c) (a := 40 + c) (b := 44) (by omega) (by omega) (fun i h1 h2 => by unfold colE inE; rw [if_neg (by omega : ¬ i < 40), decide_eq_false (by omega)]; rfl))
        have HZ0 := hid (show fillTo 44 (colE s a c) 0 = zeros44 from fillTo_zero _ _)
        generalize colE s a c = col at *
        go_enter Try.func18, Try.ntmps18
        go_wp2_with (first | (refine wpList_build_to rfl 28 rfl built_locker ?_) | (refine wpList_store_cells rfl 28 _ _ rfl _ (kCells .i16 zeros44) (kCells .i16 zeros44) rfl rfl _ 44 b1.out (by kernel_rfl) rfl rfl (kCells_one _ _) ?_; generalize hW : World.setRow _ _ (kCells .i16 zeros44) = W2))
        have c0 : Hid (W2.heap[w.heap.size]? = some (.cells (kCells .i16 zeros44) 28 (0, 0))) := hid (by rw [← hW]; exact heap_row_kept (by omega) b0.out)
        have c1 : Hid (W2.heap[w.heap.size + 1]? = some (.cells (kCells .i16 zeros44) 28 (0, 0))) := hid (by rw [← hW]; exact heap_row_set b1.out)
        have gr2 : Hid (Gr w W2) := hid (by rw [← hW]; exact gr.out.setRow (by omega) _)
        clear hW b0 b1 gr
        go_wp2_with (first | ((with_reducible refine (HS.out _).mono ?_); rintro e w' ⟨rfl, rfl⟩) | ((with_reducible refine (HK.out _).mono ?_); rintro e w' ⟨rfl, rfl⟩) | ((with_reducible refine (HB.out _).mono ?_); rintro e w' ⟨rfl, rfl⟩))
        clear HS HK HB
        go_loopw [9] (fun i wr => ∃ j : Nat, j ≤ a ∧ i = .int .i64 j ∧ Hid (Gr w wr) ∧ Hid (wr.heap[w.heap.size]? = some (.cells (kCells .i16 zeros44) 28 (0, 0))) ∧ Hid (wr.heap[w.heap.size + 1]? = some (.cells (kCells .i16 (fillTo 44 col j)) 28 (0, 0)))) (fun i _ => a - (intOf i).toNat)
        case atStart => exact ⟨0, Nat.zero_le _, rfl, gr2, c0, hid (by rw [HZ0.out]; exact c1.out)⟩
        case round =>
          obtain ⟨j, hj, rfl, hg, h0, h1⟩ := hrel
          by_cases hlt : j < a
          · have hl := fillTo_length 44 col j (by omega)
            have hc1 := cell_ints h1.out (i := j) (by omega)
            have hf1 : wr.frozen? ⟨w.heap.size + 1, j, none⟩ = false := frozen_of_row _ _ _ _ _ h1.out
            have HSET := hid (fillTo_set 44 col j (by omega))
            rw [HC1.out j hlt] at HSET
            clear hl
            generalize (fillTo 44 col j).getD j 0 = y at *
            go_wp2_with fail
            go_roundw
            case rel => exact ⟨j + 1, by omega, by go_num, hid (hg.out.setCell (by dsimp only; omega) _), hid (heap_stored (by dsimp only; omega) h0.out), hid (by rw [← HSET.out]; exact heap_int_set h1.out)⟩
            case measure => simp [intOf]; omega
          · obtain rfl : j = a := by omega
            rw [← HZ1.out] at h1
            obtain ⟨wo, hwo⟩ : ∃ wo : World, wo = wr := ⟨_, rfl⟩
            rw [← hwo] at hg h0 h1 ⊢
            clear hwo
            go_wp2_with fail
            go_loopw [10] (fun i wi => ∃ q : Nat, q ≤ c ∧ i = .int .i64 q ∧ Hid (Gr w wi) ∧ Hid (wi.heap[w.heap.size]? = some (.cells (kCells .i16 zeros44) 28 (0, 0))) ∧ Hid (wi.heap[w.heap.size + 1]? = some (.cells (kCells .i16 (fillTo 44 col (40 + q))) 28 (0, 0)))) (fun i _ => c - (intOf i).toNat)
            case atStart => exact ⟨0, Nat.zero_le _, rfl, hg, h0, h1⟩
            case round =>
              obtain ⟨q, hq, rfl, hg, h0, h1⟩ := hrel
              by_cases hlt2 : q < c
              · have hl := fillTo_length 44 col (40 + q) (by omega)
                have hc1 := cell_ints h1.out (i := 40 + q) (by omega)
                have hf1 : wr.frozen? ⟨w.heap.size + 1, 40 + q, none⟩ = false := frozen_of_row _ _ _ _ _ h1.out
                have HSET := hid (fillTo_set 44 col (40 + q) (by omega))
                rw [HC2.out q hlt2] at HSET
                clear hl
                generalize (fillTo 44 col (40 + q)).getD (40 + q) 0 = y at *
                go_wp2_with fail
                go_roundw
                case rel => exact ⟨q + 1, by omega, by go_num, hid (hg.out.setCell (by dsimp only; omega) _), hid (heap_stored (by dsimp only; omega) h0.out), hid (by rw [← Nat.add_assoc, ← HSET.out]; exact heap_int_set h1.out)⟩
                case measure => simp [intOf]; omega
              · obtain rfl : q = c := by omega
                rw [← HZ2.out] at h1
                have HLF := hid (fillTo_length 44 col 44 (Nat.le_refl _))
                go_wp2_with (first | (refine wpList_load_struct rfl 28 _ rfl _ rfl _ (kCells .i16 (fillTo 44 col 44)) _ h1.out Try.underlying28 rfl (by rw [kCells_size, HLF.out]; kernel_rfl) ?_) | (refine wpList_store_cells rfl 28 _ _ rfl _ (kCells .i16 (fillTo 44 col 44)) (kCells .i16 zeros44) rfl rfl _ 44 h0.out (by kernel_rfl) (by rw [kCells_size, HLF.out]) rfl (kCells_one _ _) ?_))
                refine bodyPost_ret (results_struct2 (by rfl) _ _ _ _ _ _ _ rfl rfl (heap_row_set h0.out) Try.underlying28 rfl (by rw [kCells_size, HLF.out]; kernel_rfl)) rfl ⟨rfl, ?_⟩
                exact hg.out.setRow (by omega) _
end Go.Proofs.Ytaedompacmdacaa
