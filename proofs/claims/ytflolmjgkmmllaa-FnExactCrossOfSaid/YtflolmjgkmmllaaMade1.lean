/- The model's patterns of two colours: border. -/
import Derived.Test.YtflolmjgkmmllaaMadeKit
namespace Go.Proofs.Ytflolmjgkmmllaa
open Go.RowKit

set_option maxHeartbeats 1000000 in
theorem made_border (g f : Int) (w : World) :
    Calls Try.prog 67 #[.int .i64 g, .int .i64 f, .int .i64 1] w fun e w' => e = .returned (.tuple #[.agg (byteCells (patFlag borderB g f)), .int .i64 (patCode g f)]) ∧ Grown w w' := by
  cases hg : colourB g
  · have e1 : patFlag borderB g f = zeros24 := by simp [patFlag, hg]
    have e2 : patCode g f = 2 := by simp [patCode, hg]
    rw [e1, e2]
    clear e1 e2
    go_enter Try.func67, Try.ntmps67
    have H0 : Hid ((((w.alloc (.cells (byteCells zeros24) 32)).alloc (.cells (byteCells zeros24) 32)).setRow (w.heap.size + 1) (byteCells zeros24)).heap[w.heap.size]? = some (.cells (byteCells zeros24) 32 (0, 0))) := hid (heap_row_kept (by omega) (heap_kept (heap_new rfl)))
    have H1 : Hid ((((w.alloc (.cells (byteCells zeros24) 32)).alloc (.cells (byteCells zeros24) 32)).setRow (w.heap.size + 1) (byteCells zeros24)).heap[w.heap.size + 1]? = some (.cells (byteCells zeros24) 32 (0, 0))) := hid (heap_row_set (heap_new (by simp)))
    go_wp2_with (first | (go_at_call 63; refine (l01Colour_any _ _).mono ?_; rintro e w' ⟨rfl, rfl⟩) | (refine wpList_build_to rfl 32 rfl built_flag ?_) | (refine wpList_load_bytes rfl 32 _ rfl _ rfl _ zeros24 _ 24 H1.out Try.underlying32 (by kernel_rfl) rfl ?_) | (refine wpList_store_bytes rfl 32 _ _ rfl _ zeros24 zeros24 rfl rfl _ 24 H0.out (by kernel_rfl) rfl rfl ?_) | (refine wpList_store_bytes rfl 32 _ _ rfl _ zeros24 zeros24 rfl rfl _ 24 (heap_new (by simp)) (by kernel_rfl) rfl rfl ?_))
    refine bodyPost_ret (results_bytes2 (by rfl) _ _ _ _ _ _ _ _ rfl rfl (heap_row_set H0.out) Try.underlying32 (by kernel_rfl) rfl) rfl ⟨rfl, ?_⟩
    exact Grown_setRow (Grown_setRow (((Grown.refl _).alloc _ _).alloc _ _) (by omega) _) (by omega) _
  · cases hf : colourB f
    · have e1 : patFlag borderB g f = zeros24 := by simp [patFlag, hf]
      have e2 : patCode g f = 2 := by simp [patCode, hf]
      rw [e1, e2]
      clear e1 e2
      go_enter Try.func67, Try.ntmps67
      have H0 : Hid ((((w.alloc (.cells (byteCells zeros24) 32)).alloc (.cells (byteCells zeros24) 32)).setRow (w.heap.size + 1) (byteCells zeros24)).heap[w.heap.size]? = some (.cells (byteCells zeros24) 32 (0, 0))) := hid (heap_row_kept (by omega) (heap_kept (heap_new rfl)))
      have H1 : Hid ((((w.alloc (.cells (byteCells zeros24) 32)).alloc (.cells (byteCells zeros24) 32)).setRow (w.heap.size + 1) (byteCells zeros24)).heap[w.heap.size + 1]? = some (.cells (byteCells zeros24) 32 (0, 0))) := hid (heap_row_set (heap_new (by simp)))
      go_wp2_with (first | (go_at_call 63; refine (l01Colour_any _ _).mono ?_; rintro e w' ⟨rfl, rfl⟩) | (refine wpList_build_to rfl 32 rfl built_flag ?_) | (refine wpList_load_bytes rfl 32 _ rfl _ rfl _ zeros24 _ 24 H1.out Try.underlying32 (by kernel_rfl) rfl ?_) | (refine wpList_store_bytes rfl 32 _ _ rfl _ zeros24 zeros24 rfl rfl _ 24 H0.out (by kernel_rfl) rfl rfl ?_) | (refine wpList_store_bytes rfl 32 _ _ rfl _ zeros24 zeros24 rfl rfl _ 24 (heap_new (by simp)) (by kernel_rfl) rfl rfl ?_))
      refine bodyPost_ret (results_bytes2 (by rfl) _ _ _ _ _ _ _ _ rfl rfl (heap_row_set H0.out) Try.underlying32 (by kernel_rfl) rfl) rfl ⟨rfl, ?_⟩
      exact Grown_setRow (Grown_setRow (((Grown.refl _).alloc _ _).alloc _ _) (by omega) _) (by omega) _
    · have e1 : patFlag borderB g f = (List.range 24).map (patCol borderB g f) := by simp [patFlag, hf, hg]
      have e2 : patCode g f = 0 := by simp [patCode, hf, hg]
      rw [e1, e2]
      clear e1 e2
      obtain ⟨hg0, hg1⟩ := colourB_true hg
      obtain ⟨hf0, hf1⟩ := colourB_true hf
      go_enter Try.func67, Try.ntmps67
      go_wp2_with (first | (go_at_call 63; refine (l01Colour_any _ _).mono ?_; rintro e w' ⟨rfl, rfl⟩) | (refine wpList_build_to rfl 32 rfl built_flag ?_) | (refine wpList_store_bytes rfl 32 _ _ rfl _ zeros24 zeros24 rfl rfl _ 24 (heap_new (by simp)) (by kernel_rfl) rfl rfl ?_))
      clear hg hf
      go_loopw [9] (fun i wr => ∃ k : Nat, k ≤ 24 ∧ i = .int .i64 k ∧ Hid (Grown w wr) ∧ Hid (wr.heap[w.heap.size]? = some (.cells (byteCells zeros24) 32 (0, 0))) ∧ Hid (wr.heap[w.heap.size + 1]? = some (.cells (byteCells (fillTo 24 (patCol borderB g f) k)) 32 (0, 0)))) (fun i _ => 24 - (intOf i).toNat)
      case atStart => exact ⟨0, Nat.zero_le _, rfl, hid (Grown_setRow (((Grown.refl _).alloc _ _).alloc _ _) (by omega) _), hid (heap_row_kept (by omega) (heap_kept (heap_new rfl))), hid (by rw [fillTo_zero]; exact heap_row_set (heap_new (by simp)))⟩
      case round =>
        obtain ⟨k, hk, rfl, hgr, h0, h1⟩ := hrel
        by_cases hlt : k < 24
        · have hc1 : wr.cell? ⟨w.heap.size + 1, k, none⟩ = some (.int .u8 ((fillTo 24 (patCol borderB g f) k).getD k 0)) := by
            rw [cell_of_row _ _ _ _ _ _ h1.out]; exact byteCells_get _ k (by rw [fillTo_length _ _ _ hk]; exact hlt)
          have hf1' : wr.frozen? ⟨w.heap.size + 1, k, none⟩ = false := frozen_of_row _ _ _ _ _ h1.out
          have HSET := hid (fillTo_set 24 (patCol borderB g f) k hlt)
          generalize (fillTo 24 (patCol borderB g f) k).getD k 0 = y at *
          have hk0 : (0 : Int) ≤ k := by omega
          cases t0 : ((k : Int) % 6 == 0)
          case true =>
            have HC := hid (show patCol borderB g f k = f by simp [patCol, borderB, pick2, t0])
            go_wp2_with fail
            go_roundw
            case rel => exact ⟨k + 1, by omega, by go_num, hid ((hgr.out.setCell (by dsimp only; omega) _).setCell (by dsimp only; omega) _), hid (heap_stored (by dsimp only; omega) (heap_stored (by dsimp only; omega) h0.out)), hid (by rw [← HSET.out, HC.out]; exact heap_byte_set2 h1.out)⟩
            case measure => simp [intOf]; omega
          case false =>
            cases t1 : ((k : Int) % 6 == 5)
            case true =>
              have HC := hid (show patCol borderB g f k = f by simp [patCol, borderB, pick2, t0, t1])
              go_wp2_with fail
              go_roundw
              case rel => exact ⟨k + 1, by omega, by go_num, hid ((hgr.out.setCell (by dsimp only; omega) _).setCell (by dsimp only; omega) _), hid (heap_stored (by dsimp only; omega) (heap_stored (by dsimp only; omega) h0.out)), hid (by rw [← HSET.out, HC.out]; exact heap_byte_set2 h1.out)⟩
              case measure => simp [intOf]; omega
            case false =>
              cases t2 : ((k : Int) / 6 == 0)
              case true =>
                have HC := hid (show patCol borderB g f k = f by simp [patCol, borderB, pick2, t0, t1, t2])
                go_wp2_with fail
                go_roundw
                case rel => exact ⟨k + 1, by omega, by go_num, hid ((hgr.out.setCell (by dsimp only; omega) _).setCell (by dsimp only; omega) _), hid (heap_stored (by dsimp only; omega) (heap_stored (by dsimp only; omega) h0.out)), hid (by rw [← HSET.out, HC.out]; exact heap_byte_set2 h1.out)⟩
                case measure => simp [intOf]; omega
              case false =>
                cases t3 : ((k : Int) / 6 == 3)
                case true =>
                  have HC := hid (show patCol borderB g f k = f by simp [patCol, borderB, pick2, t0, t1, t2, t3])
                  go_wp2_with fail
                  go_roundw
                  case rel => exact ⟨k + 1, by omega, by go_num, hid ((hgr.out.setCell (by dsimp only; omega) _).setCell (by dsimp only; omega) _), hid (heap_stored (by dsimp only; omega) (heap_stored (by dsimp only; omega) h0.out)), hid (by rw [← HSET.out, HC.out]; exact heap_byte_set2 h1.out)⟩
                  case measure => simp [intOf]; omega
                case false =>
                  have HC := hid (show patCol borderB g f k = g by simp [patCol, borderB, pick2, t0, t1, t2, t3])
                  go_wp2_with fail
                  go_roundw
                  case rel => exact ⟨k + 1, by omega, by go_num, hid (hgr.out.setCell (by dsimp only; omega) _), hid (heap_stored (by dsimp only; omega) h0.out), hid (by rw [← HSET.out, HC.out]; exact heap_byte_set h1.out)⟩
                  case measure => simp [intOf]; omega
        · have hk24 : k = 24 := by omega
          have H1 : Hid (wr.heap[w.heap.size + 1]? = some (.cells (byteCells ((List.range 24).map (patCol borderB g f))) 32 (0, 0))) := by rw [← fillTo_all, ← hk24]; rw [hk24] at h1 ⊢; exact h1
          have hl : ((List.range 24).map (patCol borderB g f)).length = 24 := by simp
          have HL := hid hl
          clear hk24 h1 hl
          go_wp2_with (first | (refine wpList_load_bytes rfl 32 _ rfl _ rfl _ ((List.range 24).map (patCol borderB g f)) _ 24 H1.out Try.underlying32 (by kernel_rfl) HL.out ?_) | (refine wpList_store_bytes rfl 32 _ _ rfl _ ((List.range 24).map (patCol borderB g f)) zeros24 rfl rfl _ 24 h0.out (by kernel_rfl) HL.out (by decide) ?_))
          refine bodyPost_ret (results_bytes2 (by rfl) _ _ _ _ _ _ _ _ rfl rfl (heap_row_set h0.out) Try.underlying32 (by kernel_rfl) HL.out) rfl ⟨rfl, ?_⟩
          exact Grown_setRow hgr.out (by omega) _
end Go.Proofs.Ytflolmjgkmmllaa
