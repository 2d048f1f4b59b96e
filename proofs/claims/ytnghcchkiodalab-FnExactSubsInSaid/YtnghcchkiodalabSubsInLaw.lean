/- SubsIn: the law's walk. -/
import Derived.Test.YtnghcchkiodalabHoistF
namespace Go.Proofs.Ytnghcchkiodalab
open Go.RowKit
set_option maxHeartbeats 2000000 in
set_option linter.unusedVariables false in
theorem FnExactSubsIn_walk (a0 : Option Addr) (cap : Nat) (xs : List Int) (hm : xs.length ≤ maxLen) (hf : Fits .i8 xs) (w : World) (hs : SliceOf .i8 w a0 xs) :
    Calls Try.prog 10 #[.slice a0 xs.length cap] w fun e w' => e = .returned (.bool true) ∧ Gr w w' := by
  unfold maxLen at hm
  by_cases hn : xs.length ≤ 1048576
  · have hsp := fun a => spec_SubsIn_any a xs hn hf
    have him := fun a => impl_SubsIn_any a xs hn hf
    have hto := fun a0 cap => toHoist_own a0 cap xs hn
    have heq := fun a b ca cb => eqHoist_own a b ca cb xs hn
    have hyl : (subsF xs).length = 4 := subsF_length xs
    generalize subsF xs = r0 at *
    generalize codeH xs = r1 at *
    have HYL := hid hyl
    clear hyl
    have HSP := hid hsp
    have HIM := hid him
    have HTO := hid hto
    have HEQ := hid heq
    have S := hid hs
    clear hsp him hto heq hs hm hf
    have hxl : xs.length ≤ maxLen := by unfold maxLen; omega
    have HXL := hid hxl
    clear hxl
    obtain ⟨n, hxn⟩ : ∃ n, n = xs.length := ⟨_, rfl⟩
    rw [← hxn] at hn HSP HIM HTO HEQ ⊢
    have HXN := hid hxn
    clear hxn
    have gr := hid (Gr.refl w)
    go_enter Try.func10, Try.ntmps10
    go_wp2_with fail
    refine (HTO.out _ _ _ S.out).mono ?_
    rintro e W1 ⟨rfl, h1, g1⟩
    replace gr := hid (gr.out.trans g1)
    replace S := hid (S.out.gr g1)
    have B1 := hid h1
    have gz1 := hid g1.size
    have lt1 := hid (lt_of_heap h1)
    clear h1 g1
    go_wp2_with fail
    refine (HSP.out _ _ (sliceOf_block B1.out)).mono ?_
    rintro e W2 ⟨rfl, g2⟩
    replace gr := hid (gr.out.trans g2)
    replace S := hid (S.out.gr g2)
    clear g2
    have nOw := hid (heap_new (w := W2) (o := .cells (kCells .i64 zeros4) 48) rfl)
    have Ow := hid (heap_row_set (cs := kCells .i64 r0) nOw.out)
    have gl := ((Gr.refl W2).alloc (.cells (kCells .i64 zeros4) 48)).setRow (Nat.le_refl _) (kCells .i64 r0)
    replace gr := hid (gr.out.trans gl)
    replace S := hid (S.out.gr gl)
    clear gl
    clear B1
    go_wp2_with (first | (refine wpList_store_cells rfl 48 _ _ rfl _ (kCells .i64 r0) (kCells .i64 zeros4) rfl rfl _ 4 nOw.out (by kernel_rfl) (by rw [kCells_size]; exact HYL.out) (by rw [kCells_size]; rfl) (kCells_one _ r0) ?_) | (refine wpList_load_cells rfl 48 _ rfl _ rfl _ (kCells .i64 r0) _ 4 Ow.out Try.underlying48 (by kernel_rfl) (by rw [kCells_size]; exact HYL.out) ?_))
    refine (HTO.out _ _ _ S.out).mono ?_
    rintro e W3 ⟨rfl, h3, g3⟩
    rw [size_setRow, World.size_alloc] at h3
    replace gr := hid (gr.out.trans g3)
    replace S := hid (S.out.gr g3)
    replace Ow := hid (g3.heap Ow.out)
    have Bx := hid h3
    have gz3 := hid g3.size
    have lt3 := hid (lt_of_heap h3)
    clear h3 g3
    go_wp2_with (first | (refine wpList_store_cells rfl 48 _ _ rfl _ (kCells .i64 r0) (kCells .i64 zeros4) rfl rfl _ 4 nOw.out (by kernel_rfl) (by rw [kCells_size]; exact HYL.out) (by rw [kCells_size]; rfl) (kCells_one _ r0) ?_) | (refine wpList_load_cells rfl 48 _ rfl _ rfl _ (kCells .i64 r0) _ 4 Ow.out Try.underlying48 (by kernel_rfl) (by rw [kCells_size]; exact HYL.out) ?_))
    refine (HIM.out _ _ (sliceOf_block Bx.out)).mono ?_
    rintro e W4 ⟨rfl, g4⟩
    replace gr := hid (gr.out.trans g4)
    replace S := hid (S.out.gr g4)
    replace Ow := hid (g4.heap Ow.out)
    replace Bx := hid (g4.heap Bx.out)
    clear g4
    have nOg := hid (heap_new (w := W4) (o := .cells (kCells .i64 zeros4) 48) rfl)
    have ltOw := lt_of_heap Ow.out
    replace Ow := hid (heap_row_kept (g := W4.heap.size) (cs := kCells .i64 r0) (by omega) (heap_kept (o := .cells (kCells .i64 zeros4) 48) Ow.out))
    clear ltOw
    have ltBx := lt_of_heap Bx.out
    replace Bx := hid (heap_row_kept (g := W4.heap.size) (cs := kCells .i64 r0) (by omega) (heap_kept (o := .cells (kCells .i64 zeros4) 48) Bx.out))
    clear ltBx
    have Og := hid (heap_row_set (cs := kCells .i64 r0) nOg.out)
    have gl := ((Gr.refl W4).alloc (.cells (kCells .i64 zeros4) 48)).setRow (Nat.le_refl _) (kCells .i64 r0)
    replace gr := hid (gr.out.trans gl)
    replace S := hid (S.out.gr gl)
    clear gl
    go_wp2_with (first | (refine wpList_store_cells rfl 48 _ _ rfl _ (kCells .i64 r0) (kCells .i64 zeros4) rfl rfl _ 4 nOg.out (by kernel_rfl) (by rw [kCells_size]; exact HYL.out) (by rw [kCells_size]; rfl) (kCells_one _ r0) ?_) | (refine wpList_load_cells rfl 48 _ rfl _ rfl _ (kCells .i64 r0) _ 4 Ow.out Try.underlying48 (by kernel_rfl) (by rw [kCells_size]; exact HYL.out) ?_) | (refine wpList_load_cells rfl 48 _ rfl _ rfl _ (kCells .i64 r0) _ 4 Og.out Try.underlying48 (by kernel_rfl) (by rw [kCells_size]; exact HYL.out) ?_))
    refine (eqInt64A4_same r0 HYL.out _).mono ?_
    rintro e W5 ⟨rfl, g5⟩
    replace gr := hid (gr.out.trans g5)
    replace S := hid (S.out.gr g5)
    replace Ow := hid (g5.heap Ow.out)
    replace Bx := hid (g5.heap Bx.out)
    replace Og := hid (g5.heap Og.out)
    clear g5
    go_wp2_with (first | (refine wpList_store_cells rfl 48 _ _ rfl _ (kCells .i64 r0) (kCells .i64 zeros4) rfl rfl _ 4 nOg.out (by kernel_rfl) (by rw [kCells_size]; exact HYL.out) (by rw [kCells_size]; rfl) (kCells_one _ r0) ?_) | (refine wpList_load_cells rfl 48 _ rfl _ rfl _ (kCells .i64 r0) _ 4 Ow.out Try.underlying48 (by kernel_rfl) (by rw [kCells_size]; exact HYL.out) ?_) | (refine wpList_load_cells rfl 48 _ rfl _ rfl _ (kCells .i64 r0) _ 4 Og.out Try.underlying48 (by kernel_rfl) (by rw [kCells_size]; exact HYL.out) ?_))
    refine (HTO.out _ _ _ S.out).mono ?_
    rintro e W6 ⟨rfl, h6, g6⟩
    replace gr := hid (gr.out.trans g6)
    replace S := hid (S.out.gr g6)
    replace Ow := hid (g6.heap Ow.out)
    replace Bx := hid (g6.heap Bx.out)
    replace Og := hid (g6.heap Og.out)
    have Bt := hid h6
    have gz6 := hid g6.size
    have lt6 := hid (lt_of_heap h6)
    clear h6 g6
    go_wp2_with (first | (refine wpList_store_cells rfl 48 _ _ rfl _ (kCells .i64 r0) (kCells .i64 zeros4) rfl rfl _ 4 nOg.out (by kernel_rfl) (by rw [kCells_size]; exact HYL.out) (by rw [kCells_size]; rfl) (kCells_one _ r0) ?_) | (refine wpList_load_cells rfl 48 _ rfl _ rfl _ (kCells .i64 r0) _ 4 Ow.out Try.underlying48 (by kernel_rfl) (by rw [kCells_size]; exact HYL.out) ?_) | (refine wpList_load_cells rfl 48 _ rfl _ rfl _ (kCells .i64 r0) _ 4 Og.out Try.underlying48 (by kernel_rfl) (by rw [kCells_size]; exact HYL.out) ?_))
    refine (HEQ.out _ _ _ _ _ (sliceOf_block Bx.out) (sliceOf_block Bt.out)).mono ?_
    rintro e W7 ⟨rfl, g7⟩
    replace gr := hid (gr.out.trans g7)
    replace S := hid (S.out.gr g7)
    replace Ow := hid (g7.heap Ow.out)
    replace Bx := hid (g7.heap Bx.out)
    replace Og := hid (g7.heap Og.out)
    clear g7 Bt
    go_wp2_with (first | (refine wpList_store_cells rfl 48 _ _ rfl _ (kCells .i64 r0) (kCells .i64 zeros4) rfl rfl _ 4 nOg.out (by kernel_rfl) (by rw [kCells_size]; exact HYL.out) (by rw [kCells_size]; rfl) (kCells_one _ r0) ?_) | (refine wpList_load_cells rfl 48 _ rfl _ rfl _ (kCells .i64 r0) _ 4 Ow.out Try.underlying48 (by kernel_rfl) (by rw [kCells_size]; exact HYL.out) ?_) | (refine wpList_load_cells rfl 48 _ rfl _ rfl _ (kCells .i64 r0) _ 4 Og.out Try.underlying48 (by kernel_rfl) (by rw [kCells_size]; exact HYL.out) ?_))
    go_ret
    exact ⟨rfl, gr.out⟩
  · have hn' : 1048576 < xs.length := by omega
    clear hn hs hf
    generalize xs.length = n at *
    go_enter Try.func10, Try.ntmps10
    go_wp2_with fail
    go_ret
    exact ⟨rfl, Gr.refl _⟩
end Go.Proofs.Ytnghcchkiodalab
