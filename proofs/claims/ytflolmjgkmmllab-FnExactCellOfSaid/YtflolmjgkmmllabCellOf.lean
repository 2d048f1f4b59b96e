/- CellOf: the two functions and the law's walk. -/
import Derived.Test.YtflolmjgkmmllabCells
namespace Go.Proofs.Ytflolmjgkmmllab
open Go.RowKit
def cellV (xs : List Int) (x y : Int) : Int := if okB xs && cellB x y then xs.getD (x + 6 * y).toNat 0 else 0
def cellC (xs : List Int) (x y : Int) : Int := if okB xs then (if cellB x y then 0 else 2) else 1

theorem spec_CellOf_any (xs : List Int) (l : xs.length = 24) (hb : Bytes xs) (x : Int) (_wx : (Lit.int .i64 x).wf = true) (y : Int) (_wy : (Lit.int .i64 y).wf = true) (w : World) :
    Calls Try.prog 15 #[.agg (byteCells xs), .int .i64 x, .int .i64 y] w fun e w' => e = .returned (.tuple #[.int .i64 (cellV xs x y), .int .i64 (cellC xs x y)]) ∧ Grown w w' := by
  have L := hid l
  have B := hid hb
  clear l hb _wx _wy
  have b0 := hid (new_block w xs 25)
  have g0 := hid ((Grown.refl w).alloc (byteCells xs) 25)
  cases ho : okB xs
  · have e1 : cellV xs x y = 0 := by simp [cellV, ho]
    have e2 : cellC xs x y = 1 := by simp [cellC, ho]
    rw [e1, e2]
    clear e1 e2
    go_enter Try.func15, Try.ntmps15
    go_wp2_with (go_at_call 46; refine (l01Ok_any _ _ xs L.out _ (bytesAt_of_block b0.out)).mono ?_; rintro e w' ⟨rfl, rfl⟩)
    go_ret2
    exact ⟨rfl, g0.out⟩
  · cases hc : cellB x y
    · have e1 : cellV xs x y = 0 := by simp [cellV, hc]
      have e2 : cellC xs x y = 2 := by simp [cellC, ho, hc]
      rw [e1, e2]
      clear e1 e2
      go_enter Try.func15, Try.ntmps15
      go_wp2_with (first | (go_at_call 46; refine (l01Ok_any _ _ xs L.out _ (bytesAt_of_block b0.out)).mono ?_; rintro e w' ⟨rfl, rfl⟩) | (go_at_call 47; refine (l01Cell_any _ _ _).mono ?_; rintro e w' ⟨rfl, rfl⟩))
      go_ret2
      exact ⟨rfl, g0.out⟩
    · obtain ⟨⟨hx0, hx1⟩, hy0, hy1⟩ := cellB_true hc
      obtain ⟨m, rfl⟩ := Int.eq_ofNat_of_zero_le hx0
      obtain ⟨n, rfl⟩ := Int.eq_ofNat_of_zero_le hy0
      have e1 : cellV xs m n = xs.getD (m + 6 * n) 0 := by simp [cellV, ho, hc]; congr 2
      have e2 : cellC xs m n = 0 := by simp [cellC, ho, hc]
      rw [e1, e2]
      clear e1 e2
      have hcell : (w.alloc (.cells (byteCells xs) 25)).cell? ⟨w.heap.size, m + 6 * n, none⟩ = some (.int .u8 (xs.getD (m + 6 * n) 0)) := by
        rw [cell_of_row _ _ _ _ _ _ b0.out]; exact byteCells_get xs _ (by rw [L.out]; omega)
      obtain ⟨hv0, hv1⟩ := B.out.get (m + 6 * n)
      generalize xs.getD (m + 6 * n) 0 = v at *
      go_enter Try.func15, Try.ntmps15
      go_wp2_with (first | (go_at_call 46; refine (l01Ok_any _ _ xs L.out _ (bytesAt_of_block b0.out)).mono ?_; rintro e w' ⟨rfl, rfl⟩) | (go_at_call 47; refine (l01Cell_any _ _ _).mono ?_; rintro e w' ⟨rfl, rfl⟩) | (go_at_call 48; refine (l01Index_any _ _ ⟨by omega, by omega⟩ ⟨by omega, by omega⟩ _).mono ?_; rintro e w' ⟨rfl, rfl⟩))
      go_ret2
      exact ⟨rfl, g0.out⟩

theorem impl_CellOf_any (xs : List Int) (l : xs.length = 24) (hb : Bytes xs) (x : Int) (_wx : (Lit.int .i64 x).wf = true) (y : Int) (_wy : (Lit.int .i64 y).wf = true) (w : World) :
    Calls Try.prog 17 #[.agg (byteCells xs), .int .i64 x, .int .i64 y] w fun e w' => e = .returned (.tuple #[.int .i64 (cellV xs x y), .int .i64 (cellC xs x y)]) ∧ Grown w w' := by
  have L := hid l
  have B := hid hb
  clear l hb _wx _wy
  have b0 := hid (new_block w xs 25)
  have g0 := hid ((Grown.refl w).alloc (byteCells xs) 25)
  cases ho : okB xs
  · have e1 : cellV xs x y = 0 := by simp [cellV, ho]
    have e2 : cellC xs x y = 1 := by simp [cellC, ho]
    rw [e1, e2]
    clear e1 e2
    go_enter Try.func17, Try.ntmps17
    go_wp2_with (refine wpList_load_bytes rfl 25 _ rfl _ rfl _ xs _ 24 b0.out Try.underlying25 (by kernel_rfl) L.out ?_)
    refine (impl_ValidFlag_any xs L.out B.out _).mono ?_
    rintro e w1 ⟨rfl, g1⟩
    replace b0 := hid (heap_grown g1 b0.out)
    replace g0 := hid (Grown_trans g0.out g1)
    clear g1
    go_wp2_with fail
    go_ret2
    exact ⟨rfl, g0.out⟩
  · cases hc : cellB x y
    · have e1 : cellV xs x y = 0 := by simp [cellV, hc]
      have e2 : cellC xs x y = 2 := by simp [cellC, ho, hc]
      rw [e1, e2]
      clear e1 e2
      go_enter Try.func17, Try.ntmps17
      go_wp2_with (refine wpList_load_bytes rfl 25 _ rfl _ rfl _ xs _ 24 b0.out Try.underlying25 (by kernel_rfl) L.out ?_)
      refine (impl_ValidFlag_any xs L.out B.out _).mono ?_
      rintro e w1 ⟨rfl, g1⟩
      replace b0 := hid (heap_grown g1 b0.out)
      replace g0 := hid (Grown_trans g0.out g1)
      clear g1
      go_wp2_with (go_at_call 50; refine (isCell_any _ _ _).mono ?_; rintro e w' ⟨rfl, rfl⟩)
      go_ret2
      exact ⟨rfl, g0.out⟩
    · obtain ⟨⟨hx0, hx1⟩, hy0, hy1⟩ := cellB_true hc
      obtain ⟨m, rfl⟩ := Int.eq_ofNat_of_zero_le hx0
      obtain ⟨n, rfl⟩ := Int.eq_ofNat_of_zero_le hy0
      have e1 : cellV xs m n = xs.getD (m + 6 * n) 0 := by simp [cellV, ho, hc]; congr 2
      have e2 : cellC xs m n = 0 := by simp [cellC, ho, hc]
      rw [e1, e2]
      clear e1 e2
      obtain ⟨hv0, hv1⟩ := B.out.get (m + 6 * n)
      generalize hvv : xs.getD (m + 6 * n) 0 = v at *
      have HV := hid hvv
      clear hvv
      go_enter Try.func17, Try.ntmps17
      go_wp2_with (refine wpList_load_bytes rfl 25 _ rfl _ rfl _ xs _ 24 b0.out Try.underlying25 (by kernel_rfl) L.out ?_)
      refine (impl_ValidFlag_any xs L.out B.out _).mono ?_
      rintro e w1 ⟨rfl, g1⟩
      replace b0 := hid (heap_grown g1 b0.out)
      replace g0 := hid (Grown_trans g0.out g1)
      clear g1
      have hcell : w1.cell? ⟨w.heap.size, m + 6 * n, none⟩ = some (.int .u8 v) := by
        rw [cell_of_row _ _ _ _ _ _ b0.out, ← HV.out]; exact byteCells_get xs _ (by rw [L.out]; omega)
      go_wp2_with (go_at_call 50; refine (isCell_any _ _ _).mono ?_; rintro e w' ⟨rfl, rfl⟩)
      go_ret2
      exact ⟨rfl, g0.out⟩

set_option maxHeartbeats 1000000 in
set_option linter.unusedVariables false in
theorem FnExactCellOf_walk (a0 : List Int) (l0 : a0.length = 24) (w0 : Bytes a0) (a1 : Int) (w1 : (Lit.int .i64 a1).wf = true) (a2 : Int) (w2 : (Lit.int .i64 a2).wf = true) (w : World) :
    Calls Try.prog 3 #[.agg (byteCells a0), .int .i64 a1, .int .i64 a2] w fun e w' => e = .returned (.bool true) ∧ Grown w w' := by
  have hs := spec_CellOf_any a0 l0 w0 a1 w1 a2 w2
  have hi := impl_CellOf_any a0 l0 w0 a1 w1 a2 w2
  generalize cellV a0 a1 a2 = r0 at *
  generalize cellC a0 a1 a2 = r1 at *
  have HS := hid hs
  have HI := hid hi
  clear hs hi
  have HL0 := hid l0
  clear l0 w0
  have b0 : Hid ((w.alloc (.cells (byteCells a0) 22)).heap[w.heap.size]? = some (.cells (byteCells a0) 22 (0, 0))) := hid (heap_new rfl)
  have gr : Hid (Grown w (w.alloc (.cells (byteCells a0) 22))) := hid ((Grown.refl _).alloc _ _)
  go_enter Try.func3, Try.ntmps3
  go_wp2_with (first | (refine wpList_load_bytes rfl 22 _ rfl _ rfl _ a0 _ 24 b0.out Try.underlying22 (by kernel_rfl) HL0.out ?_))
  refine (toFlag_any a0 HL0.out _).mono ?_
  rintro e W1 ⟨rfl, g1⟩
  replace b0 := hid (heap_grown g1 b0.out)
  replace gr := hid (Grown_trans gr.out g1)
  clear g1
  go_wp2_with (first | (refine wpList_load_bytes rfl 22 _ rfl _ rfl _ a0 _ 24 b0.out Try.underlying22 (by kernel_rfl) HL0.out ?_))
  refine (HS.out _).mono ?_
  rintro e W2 ⟨rfl, g2⟩
  replace b0 := hid (heap_grown g2 b0.out)
  replace gr := hid (Grown_trans gr.out g2)
  clear g2
  go_wp2_with (first | (refine wpList_load_bytes rfl 22 _ rfl _ rfl _ a0 _ 24 b0.out Try.underlying22 (by kernel_rfl) HL0.out ?_))
  refine (toFlag_any a0 HL0.out _).mono ?_
  rintro e W3 ⟨rfl, g3⟩
  replace b0 := hid (heap_grown g3 b0.out)
  replace gr := hid (Grown_trans gr.out g3)
  clear g3
  go_wp2_with (first | (refine wpList_load_bytes rfl 22 _ rfl _ rfl _ a0 _ 24 b0.out Try.underlying22 (by kernel_rfl) HL0.out ?_))
  refine (HI.out _).mono ?_
  rintro e W4 ⟨rfl, g4⟩
  replace b0 := hid (heap_grown g4 b0.out)
  replace gr := hid (Grown_trans gr.out g4)
  clear g4
  go_wp2_with (first | (refine wpList_load_bytes rfl 22 _ rfl _ rfl _ a0 _ 24 b0.out Try.underlying22 (by kernel_rfl) HL0.out ?_))
  go_ret
  exact ⟨rfl, gr.out⟩
end Go.Proofs.Ytflolmjgkmmllab
