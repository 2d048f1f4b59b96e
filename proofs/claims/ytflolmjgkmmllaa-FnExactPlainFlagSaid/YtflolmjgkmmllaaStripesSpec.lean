/- StripesOf of the model. -/
import Derived.Test.YtflolmjgkmmllaaStripes
namespace Go.Proofs.Ytflolmjgkmmllaa
open Go.RowKit

set_option maxHeartbeats 2000000 in
theorem spec_Stripes_true (a0 : Option Addr) (cap : Nat) (xs : List Int) (hn : xs.length ≤ 1048576) (w : World) (hs : SliceOf .i64 w a0 xs) :
    Calls Try.prog 30 #[.slice a0 xs.length cap, .bool true] w fun e w' => e = .returned (.tuple #[.agg (byteCells (stripeF xs true)), .int .i64 (stripeC xs true)]) ∧ Grown w w' := by
  have HS := hid hs
  clear hs
  obtain ⟨n, hxn⟩ : ∃ n, n = xs.length := ⟨_, rfl⟩
  rw [← hxn] at hn ⊢
  have HN := hid hxn
  clear hxn
  have hlen : (decide ((1 : Int) ≤ n) && decide ((n : Int) ≤ 6)) = okLen n true := by unfold okLen sideN; congr 1 <;> simp <;> omega
  have b0 : Hid ((((w.alloc (.cells (byteCells zeros24) 32)).alloc (.cells (byteCells zeros24) 32)).setRow (w.heap.size + 1) (byteCells zeros24)).heap[w.heap.size]? = some (.cells (byteCells zeros24) 32 (0, 0))) := hid (heap_row_kept (by omega) (heap_kept (heap_new rfl)))
  have b1 : Hid ((((w.alloc (.cells (byteCells zeros24) 32)).alloc (.cells (byteCells zeros24) 32)).setRow (w.heap.size + 1) (byteCells zeros24)).heap[w.heap.size + 1]? = some (.cells (byteCells zeros24) 32 (0, 0))) := hid (heap_row_set (heap_new (by simp)))
  have gr : Hid (Grown w (((w.alloc (.cells (byteCells zeros24) 32)).alloc (.cells (byteCells zeros24) 32)).setRow (w.heap.size + 1) (byteCells zeros24))) := hid (Grown_setRow (((Grown.refl _).alloc _ _).alloc _ _) (by omega) _)
  have z0 := hid (heap_new (w := w.alloc (.cells (byteCells zeros24) 32)) (o := .cells (byteCells zeros24) 32) (n := w.heap.size + 1) (by simp))
  go_enter Try.func30, Try.ntmps30
  go_wp2_with (first | (go_at_call 64; refine (l00In_any _ _ _ _).mono ?_; rintro e w' ⟨rfl, rfl⟩) | (refine wpList_build_to rfl 32 rfl built_flag ?_) | (refine wpList_store_bytes rfl 32 _ _ rfl _ zeros24 zeros24 rfl rfl _ 24 z0.out (by kernel_rfl) rfl rfl ?_))
  clear z0
  have HLEN := hid hlen
  clear hlen
  generalize hb0 : okLen n true = ok0 at *
  have HB0 := hid hb0
  clear hb0
  go_loopw [9, 10] (fun ok i wr => ∃ (k : Nat) (b : Bool), k ≤ n ∧ i = .int .i64 k ∧ ok = .bool b ∧ Hid (b = (ok0 && (xs.take k).all colourB)) ∧ Hid (Grown w wr) ∧ Hid (wr.heap[w.heap.size]? = some (.cells (byteCells zeros24) 32 (0, 0))) ∧ Hid (wr.heap[w.heap.size + 1]? = some (.cells (byteCells zeros24) 32 (0, 0)))) (fun _ i _ => n - (intOf i).toNat)
  case atStart => exact ⟨0, _, Nat.zero_le _, rfl, rfl, hid (by simp), gr, b0, b1⟩
  case round =>
    clear gr b0 b1
    obtain ⟨k, b, hk, rfl, rfl, hb, gr, b0, b1⟩ := hrel
    cases b
    · have E1 := hid (show stripeF xs true = zeros24 by unfold stripeF; rw [stripe_no (k := k) (by rw [← HN.out, HB0.out]; exact hb.out.symm)]; rfl)
      have E2 := hid (show stripeC xs true = 2 by unfold stripeC; rw [stripe_no (k := k) (by rw [← HN.out, HB0.out]; exact hb.out.symm)]; rfl)
      by_cases hlt : k < n
      all_goals
        go_wp2_with (first | (refine wpList_load_bytes rfl 32 _ rfl _ rfl _ zeros24 _ 24 b1.out Try.underlying32 (by kernel_rfl) rfl ?_) | (refine wpList_store_bytes rfl 32 _ _ rfl _ zeros24 zeros24 rfl rfl _ 24 b0.out (by kernel_rfl) rfl rfl ?_))
        refine bodyPost_ret (results_bytes2 (by rfl) _ _ _ _ _ _ _ _ rfl rfl (heap_row_set b0.out) Try.underlying32 (by kernel_rfl) rfl) rfl ⟨by rw [E1.out, E2.out]; rfl, ?_⟩
        exact Grown_setRow gr.out (by omega) _
    · by_cases hlt : k < n
      · obtain ⟨b, off, rfl, hc⟩ := HS.out k (by rw [← HN.out]; exact hlt)
        have hcell := cell_grown gr.out hc
        have HT := hid (take_all_succ xs k (by rw [← HN.out]; exact hlt))
        clear hc
        generalize xs.getD k 0 = x at *
        go_wp2_with (go_at_call 63; refine (l01Colour_any _ _).mono ?_; rintro e w' ⟨rfl, rfl⟩)
        go_roundw
        case rel => exact ⟨k + 1, colourB x, by omega, by go_num, rfl, hid (by rw [HT.out, ← Bool.and_assoc, ← hb.out]; simp), gr, b0, b1⟩
        case measure => simp [intOf]; omega
      · have hkn : k = n := by omega
        have hB : stripeB xs true = true := by
          unfold stripeB
          have h := hb.out
          rw [hkn, List.take_of_length_le (by rw [HN.out]; omega), ← HB0.out, HN.out] at h
          exact h.symm
        have hparts : 1 ≤ n ∧ n ≤ 6 ∧ xs.all colourB = true := by
          unfold stripeB okLen sideN at hB
          simp only [Bool.and_eq_true, decide_eq_true_eq] at hB
          rw [HN.out]; exact ⟨hB.1.1, hB.1.2, hB.2⟩
        obtain ⟨hn1, hn2, hall⟩ := hparts
        have E1 := hid (show stripeF xs true = (List.range 24).map (stripeCol xs true) by unfold stripeF; rw [if_pos hB])
        have E2 := hid (show stripeC xs true = 0 by unfold stripeC; rw [if_pos hB])
        have ALL := hid hall
        clear hB hall hkn HB0 hb HLEN
        obtain ⟨w1, hw1⟩ : ∃ w1, w1 = wr := ⟨_, rfl⟩
        rw [← hw1] at gr b0 b1 ⊢
        clear hw1
        go_wp2_with fail
        go_loopw [11] (fun i wr => ∃ j : Nat, j ≤ 24 ∧ i = .int .i64 j ∧ Hid (Grown w wr) ∧ Hid (wr.heap[w.heap.size]? = some (.cells (byteCells zeros24) 32 (0, 0))) ∧ Hid (wr.heap[w.heap.size + 1]? = some (.cells (byteCells (fillTo 24 (stripeCol xs true) j)) 32 (0, 0)))) (fun i _ => 24 - (intOf i).toNat)
        case atStart => exact ⟨0, Nat.zero_le _, rfl, gr, b0, hid (by rw [fillTo_zero]; exact b1.out)⟩
        case round =>
          obtain ⟨j, hj, rfl, hg, h0, h1⟩ := hrel
          by_cases hlt2 : j < 24
          · have hix : (j % 6) * n / 6 < n := idx_lt (by omega) (by omega)
            obtain ⟨b, off, rfl, hc⟩ := HS.out ((j % 6) * n / 6) (by rw [← HN.out]; exact hix)
            have hcell := cell_grown hg.out hc
            have hv := all_get ALL.out ((j % 6) * n / 6) (by rw [← HN.out]; exact hix)
            obtain ⟨hv0, hv1⟩ := hv
            have hcol : stripeCol xs true j = xs.getD ((j % 6) * n / 6) 0 := by unfold stripeCol alongN sideN; rw [← HN.out]; rfl
            have hc1 : wr.cell? ⟨w.heap.size + 1, j, none⟩ = some (.int .u8 ((fillTo 24 (stripeCol xs true) j).getD j 0)) := by
              rw [cell_of_row _ _ _ _ _ _ h1.out]; exact byteCells_get _ j (by rw [fillTo_length _ _ _ hj]; exact hlt2)
            have hf1 : wr.frozen? ⟨w.heap.size + 1, j, none⟩ = false := frozen_of_row _ _ _ _ _ h1.out
            have hset := fillTo_set 24 (stripeCol xs true) j hlt2
            rw [hcol] at hset
            have HSET := hid hset
            have hj0 : (0 : Int) ≤ j := by omega
            have hm0 : (0 : Int) ≤ ((j : Int) % 6) * (n : Int) := Int.mul_nonneg (by omega) (by omega)
            have hm1 : ((j : Int) % 6) * (n : Int) ≤ 5 * 6 := Int.mul_le_mul (by omega) (by omega) (by omega) (by omega)
            have hixI : ((j : Int) % 6) * (n : Int) / 6 < n := by
              have := hix
              have e : (((j % 6) * n / 6 : Nat) : Int) = ((j : Int) % 6) * (n : Int) / 6 := by simp
              omega
            clear hcol hset hc
            generalize (fillTo 24 (stripeCol xs true) j).getD j 0 = y at *
            generalize xs.getD ((j % 6) * n / 6) 0 = v at *
            go_wp2_with fail
            go_roundw
            case rel => exact ⟨j + 1, by omega, by go_num, hid (hg.out.setCell (by dsimp only; omega) _), hid (heap_stored (by dsimp only; omega) h0.out), hid (by rw [← HSET.out]; exact heap_byte_set h1.out)⟩
            case measure => simp [intOf]; omega
          · have hj24 : j = 24 := by omega
            have H1 : Hid (wr.heap[w.heap.size + 1]? = some (.cells (byteCells ((List.range 24).map (stripeCol xs true))) 32 (0, 0))) := by rw [hj24, fillTo_all] at h1; exact h1
            have HL := hid (show ((List.range 24).map (stripeCol xs true)).length = 24 by simp)
            clear hj24 h1
            go_wp2_with (first | (refine wpList_load_bytes rfl 32 _ rfl _ rfl _ ((List.range 24).map (stripeCol xs true)) _ 24 H1.out Try.underlying32 (by kernel_rfl) HL.out ?_) | (refine wpList_store_bytes rfl 32 _ _ rfl _ ((List.range 24).map (stripeCol xs true)) zeros24 rfl rfl _ 24 h0.out (by kernel_rfl) HL.out rfl ?_))
            refine bodyPost_ret (results_bytes2 (by rfl) _ _ _ _ _ _ _ _ rfl rfl (heap_row_set h0.out) Try.underlying32 (by kernel_rfl) HL.out) rfl ⟨by rw [E1.out, E2.out]; rfl, ?_⟩
            exact Grown_setRow hg.out (by omega) _

set_option maxHeartbeats 2000000 in
theorem spec_Stripes_false (a0 : Option Addr) (cap : Nat) (xs : List Int) (hn : xs.length ≤ 1048576) (w : World) (hs : SliceOf .i64 w a0 xs) :
    Calls Try.prog 30 #[.slice a0 xs.length cap, .bool false] w fun e w' => e = .returned (.tuple #[.agg (byteCells (stripeF xs false)), .int .i64 (stripeC xs false)]) ∧ Grown w w' := by
  have HS := hid hs
  clear hs
  obtain ⟨n, hxn⟩ : ∃ n, n = xs.length := ⟨_, rfl⟩
  rw [← hxn] at hn ⊢
  have HN := hid hxn
  clear hxn
  have hlen : (decide ((1 : Int) ≤ n) && decide ((n : Int) ≤ 4)) = okLen n false := by unfold okLen sideN; congr 1 <;> simp <;> omega
  have b0 : Hid ((((w.alloc (.cells (byteCells zeros24) 32)).alloc (.cells (byteCells zeros24) 32)).setRow (w.heap.size + 1) (byteCells zeros24)).heap[w.heap.size]? = some (.cells (byteCells zeros24) 32 (0, 0))) := hid (heap_row_kept (by omega) (heap_kept (heap_new rfl)))
  have b1 : Hid ((((w.alloc (.cells (byteCells zeros24) 32)).alloc (.cells (byteCells zeros24) 32)).setRow (w.heap.size + 1) (byteCells zeros24)).heap[w.heap.size + 1]? = some (.cells (byteCells zeros24) 32 (0, 0))) := hid (heap_row_set (heap_new (by simp)))
  have gr : Hid (Grown w (((w.alloc (.cells (byteCells zeros24) 32)).alloc (.cells (byteCells zeros24) 32)).setRow (w.heap.size + 1) (byteCells zeros24))) := hid (Grown_setRow (((Grown.refl _).alloc _ _).alloc _ _) (by omega) _)
  have z0 := hid (heap_new (w := w.alloc (.cells (byteCells zeros24) 32)) (o := .cells (byteCells zeros24) 32) (n := w.heap.size + 1) (by simp))
  go_enter Try.func30, Try.ntmps30
  go_wp2_with (first | (go_at_call 64; refine (l00In_any _ _ _ _).mono ?_; rintro e w' ⟨rfl, rfl⟩) | (refine wpList_build_to rfl 32 rfl built_flag ?_) | (refine wpList_store_bytes rfl 32 _ _ rfl _ zeros24 zeros24 rfl rfl _ 24 z0.out (by kernel_rfl) rfl rfl ?_))
  clear z0
  have HLEN := hid hlen
  clear hlen
  generalize hb0 : okLen n false = ok0 at *
  have HB0 := hid hb0
  clear hb0
  go_loopw [9, 10] (fun ok i wr => ∃ (k : Nat) (b : Bool), k ≤ n ∧ i = .int .i64 k ∧ ok = .bool b ∧ Hid (b = (ok0 && (xs.take k).all colourB)) ∧ Hid (Grown w wr) ∧ Hid (wr.heap[w.heap.size]? = some (.cells (byteCells zeros24) 32 (0, 0))) ∧ Hid (wr.heap[w.heap.size + 1]? = some (.cells (byteCells zeros24) 32 (0, 0)))) (fun _ i _ => n - (intOf i).toNat)
  case atStart => exact ⟨0, _, Nat.zero_le _, rfl, rfl, hid (by simp), gr, b0, b1⟩
  case round =>
    clear gr b0 b1
    obtain ⟨k, b, hk, rfl, rfl, hb, gr, b0, b1⟩ := hrel
    cases b
    · have E1 := hid (show stripeF xs false = zeros24 by unfold stripeF; rw [stripe_no (k := k) (by rw [← HN.out, HB0.out]; exact hb.out.symm)]; rfl)
      have E2 := hid (show stripeC xs false = 2 by unfold stripeC; rw [stripe_no (k := k) (by rw [← HN.out, HB0.out]; exact hb.out.symm)]; rfl)
      by_cases hlt : k < n
      all_goals
        go_wp2_with (first | (refine wpList_load_bytes rfl 32 _ rfl _ rfl _ zeros24 _ 24 b1.out Try.underlying32 (by kernel_rfl) rfl ?_) | (refine wpList_store_bytes rfl 32 _ _ rfl _ zeros24 zeros24 rfl rfl _ 24 b0.out (by kernel_rfl) rfl rfl ?_))
        refine bodyPost_ret (results_bytes2 (by rfl) _ _ _ _ _ _ _ _ rfl rfl (heap_row_set b0.out) Try.underlying32 (by kernel_rfl) rfl) rfl ⟨by rw [E1.out, E2.out]; rfl, ?_⟩
        exact Grown_setRow gr.out (by omega) _
    · by_cases hlt : k < n
      · obtain ⟨b, off, rfl, hc⟩ := HS.out k (by rw [← HN.out]; exact hlt)
        have hcell := cell_grown gr.out hc
        have HT := hid (take_all_succ xs k (by rw [← HN.out]; exact hlt))
        clear hc
        generalize xs.getD k 0 = x at *
        go_wp2_with (go_at_call 63; refine (l01Colour_any _ _).mono ?_; rintro e w' ⟨rfl, rfl⟩)
        go_roundw
        case rel => exact ⟨k + 1, colourB x, by omega, by go_num, rfl, hid (by rw [HT.out, ← Bool.and_assoc, ← hb.out]; simp), gr, b0, b1⟩
        case measure => simp [intOf]; omega
      · have hkn : k = n := by omega
        have hB : stripeB xs false = true := by
          unfold stripeB
          have h := hb.out
          rw [hkn, List.take_of_length_le (by rw [HN.out]; omega), ← HB0.out, HN.out] at h
          exact h.symm
        have hparts : 1 ≤ n ∧ n ≤ 4 ∧ xs.all colourB = true := by
          unfold stripeB okLen sideN at hB
          simp only [Bool.and_eq_true, decide_eq_true_eq] at hB
          rw [HN.out]; exact ⟨hB.1.1, hB.1.2, hB.2⟩
        obtain ⟨hn1, hn2, hall⟩ := hparts
        have E1 := hid (show stripeF xs false = (List.range 24).map (stripeCol xs false) by unfold stripeF; rw [if_pos hB])
        have E2 := hid (show stripeC xs false = 0 by unfold stripeC; rw [if_pos hB])
        have ALL := hid hall
        clear hB hall hkn HB0 hb HLEN
        obtain ⟨w1, hw1⟩ : ∃ w1, w1 = wr := ⟨_, rfl⟩
        rw [← hw1] at gr b0 b1 ⊢
        clear hw1
        go_wp2_with fail
        go_loopw [11] (fun i wr => ∃ j : Nat, j ≤ 24 ∧ i = .int .i64 j ∧ Hid (Grown w wr) ∧ Hid (wr.heap[w.heap.size]? = some (.cells (byteCells zeros24) 32 (0, 0))) ∧ Hid (wr.heap[w.heap.size + 1]? = some (.cells (byteCells (fillTo 24 (stripeCol xs false) j)) 32 (0, 0)))) (fun i _ => 24 - (intOf i).toNat)
        case atStart => exact ⟨0, Nat.zero_le _, rfl, gr, b0, hid (by rw [fillTo_zero]; exact b1.out)⟩
        case round =>
          obtain ⟨j, hj, rfl, hg, h0, h1⟩ := hrel
          by_cases hlt2 : j < 24
          · have hix : (j / 6) * n / 4 < n := idx_lt (by omega) (by omega)
            obtain ⟨b, off, rfl, hc⟩ := HS.out ((j / 6) * n / 4) (by rw [← HN.out]; exact hix)
            have hcell := cell_grown hg.out hc
            have hv := all_get ALL.out ((j / 6) * n / 4) (by rw [← HN.out]; exact hix)
            obtain ⟨hv0, hv1⟩ := hv
            have hcol : stripeCol xs false j = xs.getD ((j / 6) * n / 4) 0 := by unfold stripeCol alongN sideN; rw [← HN.out]; rfl
            have hc1 : wr.cell? ⟨w.heap.size + 1, j, none⟩ = some (.int .u8 ((fillTo 24 (stripeCol xs false) j).getD j 0)) := by
              rw [cell_of_row _ _ _ _ _ _ h1.out]; exact byteCells_get _ j (by rw [fillTo_length _ _ _ hj]; exact hlt2)
            have hf1 : wr.frozen? ⟨w.heap.size + 1, j, none⟩ = false := frozen_of_row _ _ _ _ _ h1.out
            have hset := fillTo_set 24 (stripeCol xs false) j hlt2
            rw [hcol] at hset
            have HSET := hid hset
            have hj0 : (0 : Int) ≤ j := by omega
            have hm0 : (0 : Int) ≤ ((j : Int) / 6) * (n : Int) := Int.mul_nonneg (by omega) (by omega)
            have hm1 : ((j : Int) / 6) * (n : Int) ≤ 5 * 6 := Int.mul_le_mul (by omega) (by omega) (by omega) (by omega)
            have hixI : ((j : Int) / 6) * (n : Int) / 4 < n := by
              have := hix
              have e : (((j / 6) * n / 4 : Nat) : Int) = ((j : Int) / 6) * (n : Int) / 4 := by simp
              omega
            clear hcol hset hc
            generalize (fillTo 24 (stripeCol xs false) j).getD j 0 = y at *
            generalize xs.getD ((j / 6) * n / 4) 0 = v at *
            go_wp2_with fail
            go_roundw
            case rel => exact ⟨j + 1, by omega, by go_num, hid (hg.out.setCell (by dsimp only; omega) _), hid (heap_stored (by dsimp only; omega) h0.out), hid (by rw [← HSET.out]; exact heap_byte_set h1.out)⟩
            case measure => simp [intOf]; omega
          · have hj24 : j = 24 := by omega
            have H1 : Hid (wr.heap[w.heap.size + 1]? = some (.cells (byteCells ((List.range 24).map (stripeCol xs false))) 32 (0, 0))) := by rw [hj24, fillTo_all] at h1; exact h1
            have HL := hid (show ((List.range 24).map (stripeCol xs false)).length = 24 by simp)
            clear hj24 h1
            go_wp2_with (first | (refine wpList_load_bytes rfl 32 _ rfl _ rfl _ ((List.range 24).map (stripeCol xs false)) _ 24 H1.out Try.underlying32 (by kernel_rfl) HL.out ?_) | (refine wpList_store_bytes rfl 32 _ _ rfl _ ((List.range 24).map (stripeCol xs false)) zeros24 rfl rfl _ 24 h0.out (by kernel_rfl) HL.out rfl ?_))
            refine bodyPost_ret (results_bytes2 (by rfl) _ _ _ _ _ _ _ _ rfl rfl (heap_row_set h0.out) Try.underlying32 (by kernel_rfl) HL.out) rfl ⟨by rw [E1.out, E2.out]; rfl, ?_⟩
            exact Grown_setRow hg.out (by omega) _
end Go.Proofs.Ytflolmjgkmmllaa
