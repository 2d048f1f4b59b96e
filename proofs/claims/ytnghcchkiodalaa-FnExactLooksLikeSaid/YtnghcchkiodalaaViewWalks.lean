/- MirrorFlag, TurnFlag: the functions and the laws' walks. -/
import Derived.Test.YtnghcchkiodalaaViews
namespace Go.Proofs.Ytnghcchkiodalaa
open Go.RowKit

theorem mirrored1_any (b : Nat) (xs : List Int) (hl : xs.length = 24) (m n : Nat) (hm : m < 6) (hn : n < 4) (w : World) (hb : w.heap[b]? = some (.cells (byteCells xs) 26 (0, 0))) :
    Calls Try.prog 81 #[.int .i64 m, .int .i64 n, .pointer (some ⟨b, 0, none⟩)] w fun e w' => e = .returned (.int .u8 (xs.getD (5 - m + 6 * n) 0)) ∧ Grown w w' := by
  have hcell : w.cell? ⟨b, 5 - m + 6 * n, none⟩ = some (.int .u8 (xs.getD (5 - m + 6 * n) 0)) := by
    rw [cell_of_row _ _ _ _ _ _ hb]; exact byteCells_get xs _ (by rw [hl]; omega)
  clear hb hl
  generalize xs.getD (5 - m + 6 * n) 0 = v at *
  have hj : 5 - (m : Int) + 6 * (n : Int) = ((5 - m + 6 * n : Nat) : Int) := by omega
  have HJ := hid hj
  clear hj
  go_enter Try.func81, Try.ntmps81
  go_wp2_with fail
  go_ret
  exact ⟨rfl, Grown.refl _⟩
theorem mirrored_any (xs : List Int) (hl : xs.length = 24) (w : World) :
    Calls Try.prog 53 #[.agg (byteCells xs)] w fun e w' => e = .returned (.agg (byteCells (mirL xs))) ∧ Grown w w' := by
  have L := hid hl
  clear hl
  have b0 : Hid (((w.alloc (.cells (byteCells xs) 26)).alloc (.cells (byteCells zeros24) 26)).heap[w.heap.size]? = some (.cells (byteCells xs) 26 (0, 0))) := hid (heap_kept (heap_new rfl))
  have b1 : Hid (((w.alloc (.cells (byteCells xs) 26)).alloc (.cells (byteCells zeros24) 26)).heap[w.heap.size + 1]? = some (.cells (byteCells zeros24) 26 (0, 0))) := hid (heap_new (by simp))
  have gr : Hid (Grown w ((w.alloc (.cells (byteCells xs) 26)).alloc (.cells (byteCells zeros24) 26))) := hid (((Grown.refl _).alloc _ _).alloc _ _)
  have HL := hid (mirL_length xs)
  go_enter Try.func53, Try.ntmps53
  go_wp2_with fail
  refine (painted_any 81 _ (fun i => xs.getD (mirI i) 0) _ (callFunc_enter Try.func81 (by kernel_rfl) (by kernel_rfl)) ?_).mono ?_
  · intro i hi wr hg1
    have h := mirrored1_any w.heap.size xs L.out (i % 6) (i / 6) (by omega) (by omega) wr (heap_grown hg1 b0.out)
    have e1 : ((i % 6 : Nat) : Int) = (i : Int) % 6 := by omega
    have e2 : ((i / 6 : Nat) : Int) = (i : Int) / 6 := by omega
    rw [e1, e2] at h
    have e3 : 5 - (i % 6) + 6 * (i / 6) = mirI i := by rfl
    rw [e3] at h
    exact h
  · rintro e w1 ⟨rfl, g1⟩
    replace b1 := hid (heap_grown g1 b1.out)
    replace gr := hid (Grown_trans gr.out g1)
    clear g1 b0
    go_wp2_with (refine wpList_store_bytes rfl 26 _ _ rfl _ (mirL xs) zeros24 rfl rfl _ 24 b1.out (by kernel_rfl) HL.out rfl ?_)
    refine bodyPost_ret (results_bytes1 (by rfl) _ _ _ _ _ _ _ rfl (heap_row_set b1.out) Try.underlying26 (by kernel_rfl) HL.out) rfl ⟨rfl, ?_⟩
    exact Grown_setRow gr.out (by omega) _

theorem turned1_any (b : Nat) (xs : List Int) (hl : xs.length = 24) (m n : Nat) (hm : m < 6) (hn : n < 4) (w : World) (hb : w.heap[b]? = some (.cells (byteCells xs) 26 (0, 0))) :
    Calls Try.prog 82 #[.int .i64 m, .int .i64 n, .pointer (some ⟨b, 0, none⟩)] w fun e w' => e = .returned (.int .u8 (xs.getD (5 - m + 6 * (3 - n)) 0)) ∧ Grown w w' := by
  have hcell : w.cell? ⟨b, 5 - m + 6 * (3 - n), none⟩ = some (.int .u8 (xs.getD (5 - m + 6 * (3 - n)) 0)) := by
    rw [cell_of_row _ _ _ _ _ _ hb]; exact byteCells_get xs _ (by rw [hl]; omega)
  clear hb hl
  generalize xs.getD (5 - m + 6 * (3 - n)) 0 = v at *
  have hj : 5 - (m : Int) + 6 * (3 - (n : Int)) = ((5 - m + 6 * (3 - n) : Nat) : Int) := by omega
  have HJ := hid hj
  clear hj
  go_enter Try.func82, Try.ntmps82
  go_wp2_with fail
  go_ret
  exact ⟨rfl, Grown.refl _⟩
theorem turned_any (xs : List Int) (hl : xs.length = 24) (w : World) :
    Calls Try.prog 55 #[.agg (byteCells xs)] w fun e w' => e = .returned (.agg (byteCells (turnL xs))) ∧ Grown w w' := by
  have L := hid hl
  clear hl
  have b0 : Hid (((w.alloc (.cells (byteCells xs) 26)).alloc (.cells (byteCells zeros24) 26)).heap[w.heap.size]? = some (.cells (byteCells xs) 26 (0, 0))) := hid (heap_kept (heap_new rfl))
  have b1 : Hid (((w.alloc (.cells (byteCells xs) 26)).alloc (.cells (byteCells zeros24) 26)).heap[w.heap.size + 1]? = some (.cells (byteCells zeros24) 26 (0, 0))) := hid (heap_new (by simp))
  have gr : Hid (Grown w ((w.alloc (.cells (byteCells xs) 26)).alloc (.cells (byteCells zeros24) 26))) := hid (((Grown.refl _).alloc _ _).alloc _ _)
  have HL := hid (turnL_length xs)
  go_enter Try.func55, Try.ntmps55
  go_wp2_with fail
  refine (painted_any 82 _ (fun i => xs.getD (23 - i) 0) _ (callFunc_enter Try.func82 (by kernel_rfl) (by kernel_rfl)) ?_).mono ?_
  · intro i hi wr hg1
    have h := turned1_any w.heap.size xs L.out (i % 6) (i / 6) (by omega) (by omega) wr (heap_grown hg1 b0.out)
    have e1 : ((i % 6 : Nat) : Int) = (i : Int) % 6 := by omega
    have e2 : ((i / 6 : Nat) : Int) = (i : Int) / 6 := by omega
    rw [e1, e2] at h
    have e3 : 5 - (i % 6) + 6 * (3 - i / 6) = 23 - i := by omega
    rw [e3] at h
    exact h
  · rintro e w1 ⟨rfl, g1⟩
    replace b1 := hid (heap_grown g1 b1.out)
    replace gr := hid (Grown_trans gr.out g1)
    clear g1 b0
    go_wp2_with (refine wpList_store_bytes rfl 26 _ _ rfl _ (turnL xs) zeros24 rfl rfl _ 24 b1.out (by kernel_rfl) HL.out rfl ?_)
    refine bodyPost_ret (results_bytes1 (by rfl) _ _ _ _ _ _ _ rfl (heap_row_set b1.out) Try.underlying26 (by kernel_rfl) HL.out) rfl ⟨rfl, ?_⟩
    exact Grown_setRow gr.out (by omega) _

end Go.Proofs.Ytnghcchkiodalaa
