/- Flags by value: what toFlag and eqFlag do. -/
import Derived.Test.YtnghcchkiodalaaKit
namespace Go.Proofs.Ytnghcchkiodalaa
open Go.RowKit

theorem toFlag_any (xs : List Int) (hl : xs.length = 24) (w : World) :
    Calls Try.prog 14 #[.agg (byteCells xs)] w fun e w' => e = .returned (.agg (byteCells xs)) ∧ Grown w w' := by
  have HL := hid hl
  clear hl
  go_enter Try.func14, Try.ntmps14
  go_wp2_with fail
  go_loopw [4] (fun i wr => ∃ k : Nat, k ≤ 24 ∧ i = .int .i64 k ∧ Hid (Grown w wr) ∧ Hid (wr.heap[w.heap.size]? = some (.cells (byteCells xs) 22 (0, 0))) ∧ Hid (wr.heap[w.heap.size + 1]? = some (.cells (byteCells zeros24) 26 (0, 0))) ∧ Hid (wr.heap[w.heap.size + 1 + 1]? = some (.cells (byteCells (xs.take k ++ List.replicate (24 - k) 0)) 26 (0, 0)))) (fun i _ => 24 - (intOf i).toNat)
  case atStart => exact ⟨0, Nat.zero_le _, rfl, hid ((((Grown.refl _).alloc _ _).alloc _ _).alloc _ _), hid (heap_kept (heap_kept (heap_new rfl))), hid (heap_kept (heap_new (by simp))), hid (heap_new (by simp))⟩
  case round =>
    obtain ⟨k, hk, rfl, hg, h0, h1, h2⟩ := hrel
    by_cases hlt : k < 24
    · have hc0 : wr.cell? ⟨w.heap.size, k, none⟩ = some (.int .u8 (xs.getD k 0)) := by
        rw [cell_of_row _ _ _ _ _ _ h0.out]; exact byteCells_get xs k (by rw [HL.out]; exact hlt)
      have hl2 : (xs.take k ++ List.replicate (24 - k) (0 : Int)).length = 24 := by simp [HL.out]; omega
      have hc2 : wr.cell? ⟨w.heap.size + 1 + 1, k, none⟩ = some (.int .u8 ((xs.take k ++ List.replicate (24 - k) (0 : Int)).getD k 0)) := by
        rw [cell_of_row _ _ _ _ _ _ h2.out]; exact byteCells_get _ k (by omega)
      have hf2 : wr.frozen? ⟨w.heap.size + 1 + 1, k, none⟩ = false := frozen_of_row _ _ _ _ _ h2.out
      have hset : (xs.take k ++ List.replicate (24 - k) (0 : Int)).set k (xs.getD k 0) = xs.take (k + 1) ++ List.replicate (24 - (k + 1)) 0 := by
        have hk' : k < xs.length := by rw [HL.out]; exact hlt
        rw [List.set_append_right _ _ (by simp; omega), List.take_succ_eq_append_getElem hk', List.append_assoc]
        congr 1
        rw [List.length_take, Nat.min_eq_left (by omega), Nat.sub_self, show 24 - k = (24 - (k + 1)) + 1 by omega, List.replicate_succ]
        simp [List.getD, List.getElem?_eq_getElem hk']
      have HSET := hid hset
      clear hset hl2
      generalize xs.getD k 0 = x at *
      generalize (xs.take k ++ List.replicate (24 - k) (0 : Int)).getD k 0 = y at *
      go_wp2_with fail
      go_roundw
      case rel => exact ⟨k + 1, by omega, by go_num, hid (hg.out.setCell (by dsimp only; omega) _), hid (heap_stored (by dsimp only; omega) h0.out), hid (heap_stored (by dsimp only; omega) h1.out), hid (by rw [← HSET.out]; exact heap_byte_set h2.out)⟩
      case measure => simp [intOf]; omega
    · have hk24 : k = 24 := by omega
      have hend : xs.take k ++ List.replicate (24 - k) (0 : Int) = xs := by
        rw [hk24, List.take_of_length_le (by rw [HL.out]; omega)]; simp
      have H2 : Hid (wr.heap[w.heap.size + 1 + 1]? = some (.cells (byteCells xs) 26 (0, 0))) := by rw [← hend]; exact h2
      clear hend h2 hk24
      go_wp2_with (first | (refine wpList_load_bytes rfl 26 _ rfl _ rfl _ xs _ 24 H2.out Try.underlying26 (by kernel_rfl) HL.out ?_) | (refine wpList_store_bytes rfl 26 _ _ rfl _ xs zeros24 rfl rfl _ 24 h1.out (by kernel_rfl) HL.out (by decide) ?_))
      refine bodyPost_ret (v := .agg (byteCells xs)) (results_cell_row (by rfl) _ _ _ _ _ _ _ rfl (heap_row_set h1.out) Try.underlying26 rfl (by rw [byteCells_size, HL.out]; kernel_rfl)) rfl ⟨rfl, ?_⟩
      exact Grown_setRow hg.out (by omega) _

theorem eqFlag_same (xs : List Int) (hl : xs.length = 24) (w : World) :
    Calls Try.prog 59 #[.agg (byteCells xs), .agg (byteCells xs)] w fun e w' => e = .returned (.bool true) ∧ Grown w w' := by
  have HL := hid hl
  clear hl
  go_enter Try.func59, Try.ntmps59
  go_wp2_with fail
  go_loopw [5] (fun i wr => ∃ k : Nat, k ≤ 24 ∧ i = .int .i64 k ∧ Hid (Grown w wr) ∧ Hid (wr.heap[w.heap.size]? = some (.cells (byteCells xs) 26 (0, 0))) ∧ Hid (wr.heap[w.heap.size + 1]? = some (.cells (byteCells xs) 26 (0, 0)))) (fun i _ => 24 - (intOf i).toNat)
  case atStart => exact ⟨0, Nat.zero_le _, rfl, hid (((Grown.refl _).alloc _ _).alloc _ _), hid (heap_kept (heap_new rfl)), hid (heap_new (by simp))⟩
  case round =>
    obtain ⟨k, hk, rfl, hg, h0, h1⟩ := hrel
    by_cases hlt : k < 24
    · have hc0 : wr.cell? ⟨w.heap.size, k, none⟩ = some (.int .u8 (xs.getD k 0)) := by
        rw [cell_of_row _ _ _ _ _ _ h0.out]; exact byteCells_get xs k (by rw [HL.out]; exact hlt)
      have hc1 : wr.cell? ⟨w.heap.size + 1, k, none⟩ = some (.int .u8 (xs.getD k 0)) := by
        rw [cell_of_row _ _ _ _ _ _ h1.out]; exact byteCells_get xs k (by rw [HL.out]; exact hlt)
      generalize xs.getD k 0 = x at *
      have hb0 : (0 : Int) ≤ k := by omega
      have hb1 : (k : Int) < 24 := by omega
      go_wp2_with fail
      go_quiet (fail)
      go_wp2_with fail
      go_roundw
      case rel => exact ⟨k + 1, by omega, by go_num, hid (hg.out.drewN _), h0, h1⟩
      case measure => simp [intOf]; omega
    · go_wp2_with fail
      go_ret
      exact ⟨rfl, hg.out⟩
end Go.Proofs.Ytnghcchkiodalaa
