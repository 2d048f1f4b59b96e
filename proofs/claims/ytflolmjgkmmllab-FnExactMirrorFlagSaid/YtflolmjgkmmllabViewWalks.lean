/- MirrorFlag, TurnFlag: the functions and the laws' walks. -/
import Derived.Test.YtflolmjgkmmllabViews
namespace Go.Proofs.Ytflolmjgkmmllab
open Go.RowKit

theorem mirrored1_any (b : Nat) (xs : List Int) (hl : xs.length = 24) (m n : Nat) (hm : m < 6) (hn : n < 4) (w : World) (hb : w.heap[b]? = some (.cells (byteCells xs) 25 (0, 0))) :
    Calls Try.prog 74 #[.int .i64 m, .int .i64 n, .pointer (some ⟨b, 0, none⟩)] w fun e w' => e = .returned (.int .u8 (xs.getD (5 - m + 6 * n) 0)) ∧ Grown w w' := by
  have hcell : w.cell? ⟨b, 5 - m + 6 * n, none⟩ = some (.int .u8 (xs.getD (5 - m + 6 * n) 0)) := by
    rw [cell_of_row _ _ _ _ _ _ hb]; exact byteCells_get xs _ (by rw [hl]; omega)
  clear hb hl
  generalize xs.getD (5 - m + 6 * n) 0 = v at *
  have hj : 5 - (m : Int) + 6 * (n : Int) = ((5 - m + 6 * n : Nat) : Int) := by omega
  have HJ := hid hj
  clear hj
  go_enter Try.func74, Try.ntmps74
  go_wp2_with fail
  go_ret
  exact ⟨rfl, Grown.refl _⟩
theorem mirrored_any (xs : List Int) (hl : xs.length = 24) (w : World) :
    Calls Try.prog 53 #[.agg (byteCells xs)] w fun e w' => e = .returned (.agg (byteCells (mirL xs))) ∧ Grown w w' := by
  have L := hid hl
  clear hl
  have b0 : Hid (((w.alloc (.cells (byteCells xs) 25)).alloc (.cells (byteCells zeros24) 25)).heap[w.heap.size]? = some (.cells (byteCells xs) 25 (0, 0))) := hid (heap_kept (heap_new rfl))
  have b1 : Hid (((w.alloc (.cells (byteCells xs) 25)).alloc (.cells (byteCells zeros24) 25)).heap[w.heap.size + 1]? = some (.cells (byteCells zeros24) 25 (0, 0))) := hid (heap_new (by simp))
  have gr : Hid (Grown w ((w.alloc (.cells (byteCells xs) 25)).alloc (.cells (byteCells zeros24) 25))) := hid (((Grown.refl _).alloc _ _).alloc _ _)
  have HL := hid (mirL_length xs)
  go_enter Try.func53, Try.ntmps53
  go_wp2_with fail
  refine (painted_any 74 _ (fun i => xs.getD (mirI i) 0) _ (callFunc_enter Try.func74 (by kernel_rfl) (by kernel_rfl)) ?_).mono ?_
  · intro i hi wr hg1
    have h := mirrored1_any w.heap.size xs L.out (i % 6) (i / 6) (by omega) (by omega) wr (heap_grown hg1 b0.out)
    have e1 : ((i % 6 : Nat) : Int) = (i : Int) % 6 := by omega
    have e2 : ((i / 6 : Nat) : Int) = (i : Int) / 6 := by omega
    rw [e1, e2] at h
    have e3 : 5 - (i % 6) + 6 * (i / 6) = mirI i := by rfl
    rw [e3] at h
    exact h
  · rintro e w1 ⟨rfl, g1⟩
    replace b1 := hid (heap_grown g1 b1.out)
    replace gr := hid (Grown_trans gr.out g1)
    clear g1 b0
    go_wp2_with (refine wpList_store_bytes rfl 25 _ _ rfl _ (mirL xs) zeros24 rfl rfl _ 24 b1.out (by kernel_rfl) HL.out rfl ?_)
    refine bodyPost_ret (results_bytes1 (by rfl) _ _ _ _ _ _ _ rfl (heap_row_set b1.out) Try.underlying25 (by kernel_rfl) HL.out) rfl ⟨rfl, ?_⟩
    exact Grown_setRow gr.out (by omega) _

theorem turned1_any (b : Nat) (xs : List Int) (hl : xs.length = 24) (m n : Nat) (hm : m < 6) (hn : n < 4) (w : World) (hb : w.heap[b]? = some (.cells (byteCells xs) 25 (0, 0))) :
    Calls Try.prog 75 #[.int .i64 m, .int .i64 n, .pointer (some ⟨b, 0, none⟩)] w fun e w' => e = .returned (.int .u8 (xs.getD (5 - m + 6 * (3 - n)) 0)) ∧ Grown w w' := by
  have hcell : w.cell? ⟨b, 5 - m + 6 * (3 - n), none⟩ = some (.int .u8 (xs.getD (5 - m + 6 * (3 - n)) 0)) := by
    rw [cell_of_row _ _ _ _ _ _ hb]; exact byteCells_get xs _ (by rw [hl]; omega)
  clear hb hl
  generalize xs.getD (5 - m + 6 * (3 - n)) 0 = v at *
  have hj : 5 - (m : Int) + 6 * (3 - (n : Int)) = ((5 - m + 6 * (3 - n) : Nat) : Int) := by omega
  have HJ := hid hj
  clear hj
  go_enter Try.func75, Try.ntmps75
  go_wp2_with fail
  go_ret
  exact ⟨rfl, Grown.refl _⟩
theorem turned_any (xs : List Int) (hl : xs.length = 24) (w : World) :
    Calls Try.prog 55 #[.agg (byteCells xs)] w fun e w' => e = .returned (.agg (byteCells (turnL xs))) ∧ Grown w w' := by
  have L := hid hl
  clear hl
  have b0 : Hid (((w.alloc (.cells (byteCells xs) 25)).alloc (.cells (byteCells zeros24) 25)).heap[w.heap.size]? = some (.cells (byteCells xs) 25 (0, 0))) := hid (heap_kept (heap_new rfl))
  have b1 : Hid (((w.alloc (.cells (byteCells xs) 25)).alloc (.cells (byteCells zeros24) 25)).heap[w.heap.size + 1]? = some (.cells (byteCells zeros24) 25 (0, 0))) := hid (heap_new (by simp))
  have gr : Hid (Grown w ((w.alloc (.cells (byteCells xs) 25)).alloc (.cells (byteCells zeros24) 25))) := hid (((Grown.refl _).alloc _ _).alloc _ _)
  have HL := hid (turnL_length xs)
  go_enter Try.func55, Try.ntmps55
  go_wp2_with fail
  refine (painted_any 75 _ (fun i => xs.getD (23 - i) 0) _ (callFunc_enter Try.func75 (by kernel_rfl) (by kernel_rfl)) ?_).mono ?_
  · intro i hi wr hg1
    have h := turned1_any w.heap.size xs L.out (i % 6) (i / 6) (by omega) (by omega) wr (heap_grown hg1 b0.out)
    have e1 : ((i % 6 : Nat) : Int) = (i : Int) % 6 := by omega
    have e2 : ((i / 6 : Nat) : Int) = (i : Int) / 6 := by omega
    rw [e1, e2] at h
    have e3 : 5 - (i % 6) + 6 * (3 - i / 6) = 23 - i := by omega
    rw [e3] at h
    exact h
  · rintro e w1 ⟨rfl, g1⟩
    replace b1 := hid (heap_grown g1 b1.out)
    replace gr := hid (Grown_trans gr.out g1)
    clear g1 b0
    go_wp2_with (refine wpList_store_bytes rfl 25 _ _ rfl _ (turnL xs) zeros24 rfl rfl _ 24 b1.out (by kernel_rfl) HL.out rfl ?_)
    refine bodyPost_ret (results_bytes1 (by rfl) _ _ _ _ _ _ _ rfl (heap_row_set b1.out) Try.underlying25 (by kernel_rfl) HL.out) rfl ⟨rfl, ?_⟩
    exact Grown_setRow gr.out (by omega) _

theorem viewOf_any (F : FuncId) (V : List Int → List Int) (hV : ∀ xs : List Int, (V xs).length = 24) (xs : List Int) (hl : xs.length = 24) (hb : Bytes xs) (w : World)
    (hcf : ∀ args w, (callFunc F args).run Try.prog w = .ok (.enter F args) w)
    (hF : ∀ w, Calls Try.prog F #[.agg (byteCells xs)] w fun e w' => e = .returned (.agg (byteCells (V xs))) ∧ Grown w w') :
    Calls Try.prog 52 #[.agg (byteCells xs), .func (.func F) #[] #[]] w fun e w' => e = .returned (.tuple #[.agg (byteCells (viewF V xs)), .int .i64 (viewC xs)]) ∧ Grown w w' := by
  have L := hid hl
  have B := hid hb
  have HF := hid hF
  have HL := hid (hV xs)
  clear hl hb hF
  have b0 : Hid (((w.alloc (.cells (byteCells xs) 25)).alloc (.cells (byteCells zeros24) 25)).heap[w.heap.size]? = some (.cells (byteCells xs) 25 (0, 0))) := hid (heap_kept (heap_new rfl))
  have b1 : Hid (((w.alloc (.cells (byteCells xs) 25)).alloc (.cells (byteCells zeros24) 25)).heap[w.heap.size + 1]? = some (.cells (byteCells zeros24) 25 (0, 0))) := hid (heap_new (by simp))
  have gr : Hid (Grown w ((w.alloc (.cells (byteCells xs) 25)).alloc (.cells (byteCells zeros24) 25))) := hid (((Grown.refl _).alloc _ _).alloc _ _)
  cases ho : okB xs
  · have e1 : viewF V xs = zeros24 := by simp [viewF, ho]
    have e2 : viewC xs = 1 := by simp [viewC, ho]
    rw [e1, e2]
    clear e1 e2
    go_enter Try.func52, Try.ntmps52
    go_wp2_with (refine wpList_load_bytes rfl 25 _ rfl _ rfl _ xs _ 24 b0.out Try.underlying25 (by kernel_rfl) L.out ?_)
    refine (impl_ValidFlag_any xs L.out B.out _).mono ?_
    rintro e w1 ⟨rfl, g1⟩
    replace b1 := hid (heap_grown g1 b1.out)
    replace gr := hid (Grown_trans gr.out g1)
    clear g1
    go_wp2_with (first | (refine wpList_build_to rfl 25 rfl built_flag ?_) | (refine wpList_store_bytes rfl 25 _ _ rfl _ zeros24 zeros24 rfl rfl _ 24 b1.out (by kernel_rfl) rfl rfl ?_))
    refine bodyPost_ret (results_bytes2 (by rfl) _ _ _ _ _ _ _ _ rfl rfl (heap_row_set b1.out) Try.underlying25 (by kernel_rfl) rfl) rfl ⟨rfl, ?_⟩
    exact Grown_setRow gr.out (by omega) _
  · have e1 : viewF V xs = V xs := by simp [viewF, ho]
    have e2 : viewC xs = 0 := by simp [viewC, ho]
    rw [e1, e2]
    clear e1 e2
    go_enter Try.func52, Try.ntmps52
    go_wp2_with (refine wpList_load_bytes rfl 25 _ rfl _ rfl _ xs _ 24 b0.out Try.underlying25 (by kernel_rfl) L.out ?_)
    refine (impl_ValidFlag_any xs L.out B.out _).mono ?_
    rintro e w1 ⟨rfl, g1⟩
    replace b0 := hid (heap_grown g1 b0.out)
    replace b1 := hid (heap_grown g1 b1.out)
    replace gr := hid (Grown_trans gr.out g1)
    clear g1
    go_wp2_with (refine wpList_load_bytes rfl 25 _ rfl _ rfl _ xs _ 24 b0.out Try.underlying25 (by kernel_rfl) L.out ?_)
    refine (HF.out _).mono ?_
    rintro e w2 ⟨rfl, g2⟩
    replace b1 := hid (heap_grown g2 b1.out)
    replace gr := hid (Grown_trans gr.out g2)
    clear g2 b0
    go_wp2_with (refine wpList_store_bytes rfl 25 _ _ rfl _ (V xs) zeros24 rfl rfl _ 24 b1.out (by kernel_rfl) HL.out rfl ?_)
    refine bodyPost_ret (results_bytes2 (by rfl) _ _ _ _ _ _ _ _ rfl rfl (heap_row_set b1.out) Try.underlying25 (by kernel_rfl) HL.out) rfl ⟨rfl, ?_⟩
    exact Grown_setRow gr.out (by omega) _

theorem impl_MirrorFlag_any (xs : List Int) (hl : xs.length = 24) (hb : Bytes xs) (w : World) :
    Calls Try.prog 19 #[.agg (byteCells xs)] w fun e w' => e = .returned (.tuple #[.agg (byteCells (viewF mirL xs)), .int .i64 (viewC xs)]) ∧ Grown w w' := by
  have hv := viewOf_any 53 mirL mirL_length xs hl hb
  have hf := viewF_length mirL mirL_length xs
  have L := hid hl
  have HL := hid hf
  have HV := hid hv
  clear hl hb hv hf
  have b0 : Hid (((w.alloc (.cells (byteCells xs) 25)).alloc (.cells (byteCells zeros24) 25)).heap[w.heap.size]? = some (.cells (byteCells xs) 25 (0, 0))) := hid (heap_kept (heap_new rfl))
  have b1 : Hid (((w.alloc (.cells (byteCells xs) 25)).alloc (.cells (byteCells zeros24) 25)).heap[w.heap.size + 1]? = some (.cells (byteCells zeros24) 25 (0, 0))) := hid (heap_new (by simp))
  have gr : Hid (Grown w ((w.alloc (.cells (byteCells xs) 25)).alloc (.cells (byteCells zeros24) 25))) := hid (((Grown.refl _).alloc _ _).alloc _ _)
  generalize viewF mirL xs = V at *
  generalize viewC xs = c at *
  go_enter Try.func19, Try.ntmps19
  go_wp2_with (refine wpList_load_bytes rfl 25 _ rfl _ rfl _ xs _ 24 b0.out Try.underlying25 (by kernel_rfl) L.out ?_)
  refine (HV.out _ (callFunc_enter Try.func53 (by kernel_rfl) (by kernel_rfl)) (mirrored_any xs L.out)).mono ?_
  rintro e w1 ⟨rfl, g1⟩
  replace b1 := hid (heap_grown g1 b1.out)
  replace gr := hid (Grown_trans gr.out g1)
  clear g1 b0
  go_wp2_with (refine wpList_store_bytes rfl 25 _ _ rfl _ V zeros24 rfl rfl _ 24 b1.out (by kernel_rfl) HL.out rfl ?_)
  refine bodyPost_ret (results_bytes2 (by rfl) _ _ _ _ _ _ _ _ rfl rfl (heap_row_set b1.out) Try.underlying25 (by kernel_rfl) HL.out) rfl ⟨rfl, ?_⟩
  exact Grown_setRow gr.out (by omega) _

theorem spec_MirrorFlag_any (xs : List Int) (hl : xs.length = 24) (hb : Bytes xs) (w : World) :
    Calls Try.prog 18 #[.agg (byteCells xs)] w fun e w' => e = .returned (.tuple #[.agg (byteCells (viewF mirL xs)), .int .i64 (viewC xs)]) ∧ Grown w w' := by
  have L := hid hl
  have B := hid hb
  have HL := hid (mirL_length xs)
  clear hl hb
  have b0 : Hid (((w.alloc (.cells (byteCells xs) 25)).alloc (.cells (byteCells zeros24) 25)).heap[w.heap.size]? = some (.cells (byteCells xs) 25 (0, 0))) := hid (heap_kept (heap_new rfl))
  have b1 : Hid (((w.alloc (.cells (byteCells xs) 25)).alloc (.cells (byteCells zeros24) 25)).heap[w.heap.size + 1]? = some (.cells (byteCells zeros24) 25 (0, 0))) := hid (heap_new (by simp))
  have gr : Hid (Grown w ((w.alloc (.cells (byteCells xs) 25)).alloc (.cells (byteCells zeros24) 25))) := hid (((Grown.refl _).alloc _ _).alloc _ _)
  cases ho : okB xs
  · have e1 : viewF mirL xs = zeros24 := by simp [viewF, ho]
    have e2 : viewC xs = 1 := by simp [viewC, ho]
    rw [e1, e2]
    clear e1 e2
    go_enter Try.func18, Try.ntmps18
    go_wp2_with (first | (go_at_call 46; refine (l01Ok_any _ _ xs L.out _ (bytesAt_of_block b0.out)).mono ?_; rintro e w' ⟨rfl, rfl⟩) | (refine wpList_build_to rfl 25 rfl built_flag ?_) | (refine wpList_store_bytes rfl 25 _ _ rfl _ zeros24 zeros24 rfl rfl _ 24 b1.out (by kernel_rfl) rfl rfl ?_))
    refine bodyPost_ret (results_bytes2 (by rfl) _ _ _ _ _ _ _ _ rfl rfl (heap_row_set b1.out) Try.underlying25 (by kernel_rfl) rfl) rfl ⟨rfl, ?_⟩
    exact Grown_setRow gr.out (by omega) _
  · have e1 : viewF mirL xs = mirL xs := by simp [viewF, ho]
    have e2 : viewC xs = 0 := by simp [viewC, ho]
    rw [e1, e2]
    clear e1 e2
    go_enter Try.func18, Try.ntmps18
    go_wp2_with (go_at_call 46; refine (l01Ok_any _ _ xs L.out _ (bytesAt_of_block b0.out)).mono ?_; rintro e w' ⟨rfl, rfl⟩)
    refine (l01Mirror_any _ _ xs L.out B.out _ (bytesAt_of_block b0.out) (lt_of_heap b0.out)).mono ?_
    rintro e w1 ⟨rfl, g1⟩
    replace b1 := hid (heap_grown g1 b1.out)
    replace gr := hid (Grown_trans gr.out g1)
    clear g1 b0
    go_wp2_with (refine wpList_store_bytes rfl 25 _ _ rfl _ (mirL xs) zeros24 rfl rfl _ 24 b1.out (by kernel_rfl) HL.out rfl ?_)
    refine bodyPost_ret (results_bytes2 (by rfl) _ _ _ _ _ _ _ _ rfl rfl (heap_row_set b1.out) Try.underlying25 (by kernel_rfl) HL.out) rfl ⟨rfl, ?_⟩
    exact Grown_setRow gr.out (by omega) _

set_option maxHeartbeats 1000000 in
set_option linter.unusedVariables false in
theorem FnExactMirrorFlag_walk (a0 : List Int) (l0 : a0.length = 24) (w0 : Bytes a0) (w : World) :
    Calls Try.prog 4 #[.agg (byteCells a0)] w fun e w' => e = .returned (.bool true) ∧ Grown w w' := by
  have hs := spec_MirrorFlag_any a0 l0 w0
  have hi := impl_MirrorFlag_any a0 l0 w0
  have hr0 : (viewF mirL a0).length = 24 := viewF_length mirL mirL_length a0
  generalize viewF mirL a0 = r0 at *
  generalize viewC a0 = r1 at *
  have HS := hid hs
  have HI := hid hi
  clear hs hi
  have HL0 := hid l0
  clear l0 w0
  have HR0 := hid hr0
  clear hr0
  have b0 : Hid ((w.alloc (.cells (byteCells a0) 22)).heap[w.heap.size]? = some (.cells (byteCells a0) 22 (0, 0))) := hid (heap_new rfl)
  have gr : Hid (Grown w (w.alloc (.cells (byteCells a0) 22))) := hid ((Grown.refl _).alloc _ _)
  go_enter Try.func4, Try.ntmps4
  go_wp2_with (first | (refine wpList_load_bytes rfl 22 _ rfl _ rfl _ a0 _ 24 b0.out Try.underlying22 (by kernel_rfl) HL0.out ?_))
  refine (toFlag_any a0 HL0.out _).mono ?_
  rintro e W1 ⟨rfl, g1⟩
  replace b0 := hid (heap_grown g1 b0.out)
  replace gr := hid (Grown_trans gr.out g1)
  clear g1
  go_wp2_with (first | (refine wpList_load_bytes rfl 22 _ rfl _ rfl _ a0 _ 24 b0.out Try.underlying22 (by kernel_rfl) HL0.out ?_))
  refine (HS.out _).mono ?_
  rintro e W2 ⟨rfl, g2⟩
  replace b0 := hid (heap_grown g2 b0.out)
  replace gr := hid (Grown_trans gr.out g2)
  clear g2
  have ns0 := hid (heap_new (w := W2) (o := .cells (byteCells zeros24) 25) rfl)
  have ltb0 := lt_of_heap b0.out
  replace b0 := hid (heap_row_kept (g := W2.heap.size) (cs := byteCells r0) (by omega) (heap_kept (o := .cells (byteCells zeros24) 25) b0.out))
  clear ltb0
  have cs0 := hid (heap_row_set (cs := byteCells r0) ns0.out)
  have gl := gr.out.2.2
  replace gr := hid (Grown_setRow (gr.out.alloc (byteCells zeros24) 25) gl (byteCells r0))
  clear gl
  go_wp2_with (first | (refine wpList_store_bytes rfl 25 _ _ rfl _ r0 zeros24 rfl rfl _ 24 ns0.out (by kernel_rfl) HR0.out rfl ?_) | (refine wpList_load_bytes rfl 22 _ rfl _ rfl _ a0 _ 24 b0.out Try.underlying22 (by kernel_rfl) HL0.out ?_) | (refine wpList_load_bytes rfl 25 _ rfl _ rfl _ r0 _ 24 cs0.out Try.underlying25 (by kernel_rfl) HR0.out ?_))
  refine (toFlag_any a0 HL0.out _).mono ?_
  rintro e W3 ⟨rfl, g3⟩
  replace b0 := hid (heap_grown g3 b0.out)
  replace cs0 := hid (heap_grown g3 cs0.out)
  replace gr := hid (Grown_trans gr.out g3)
  clear g3
  go_wp2_with (first | (refine wpList_load_bytes rfl 22 _ rfl _ rfl _ a0 _ 24 b0.out Try.underlying22 (by kernel_rfl) HL0.out ?_) | (refine wpList_load_bytes rfl 25 _ rfl _ rfl _ r0 _ 24 cs0.out Try.underlying25 (by kernel_rfl) HR0.out ?_))
  refine (HI.out _).mono ?_
  rintro e W4 ⟨rfl, g4⟩
  replace b0 := hid (heap_grown g4 b0.out)
  replace cs0 := hid (heap_grown g4 cs0.out)
  replace gr := hid (Grown_trans gr.out g4)
  clear g4
  have ni0 := hid (heap_new (w := W4) (o := .cells (byteCells zeros24) 25) rfl)
  have ltb0 := lt_of_heap b0.out
  replace b0 := hid (heap_row_kept (g := W4.heap.size) (cs := byteCells r0) (by omega) (heap_kept (o := .cells (byteCells zeros24) 25) b0.out))
  clear ltb0
  have ltcs0 := lt_of_heap cs0.out
  replace cs0 := hid (heap_row_kept (g := W4.heap.size) (cs := byteCells r0) (by omega) (heap_kept (o := .cells (byteCells zeros24) 25) cs0.out))
  clear ltcs0
  have ci0 := hid (heap_row_set (cs := byteCells r0) ni0.out)
  have gl := gr.out.2.2
  replace gr := hid (Grown_setRow (gr.out.alloc (byteCells zeros24) 25) gl (byteCells r0))
  clear gl
  go_wp2_with (first | (refine wpList_store_bytes rfl 25 _ _ rfl _ r0 zeros24 rfl rfl _ 24 ni0.out (by kernel_rfl) HR0.out rfl ?_) | (refine wpList_load_bytes rfl 22 _ rfl _ rfl _ a0 _ 24 b0.out Try.underlying22 (by kernel_rfl) HL0.out ?_) | (refine wpList_load_bytes rfl 25 _ rfl _ rfl _ r0 _ 24 cs0.out Try.underlying25 (by kernel_rfl) HR0.out ?_) | (refine wpList_load_bytes rfl 25 _ rfl _ rfl _ r0 _ 24 ci0.out Try.underlying25 (by kernel_rfl) HR0.out ?_))
  refine (eqFlag_same r0 HR0.out _).mono ?_
  rintro e W5 ⟨rfl, g5⟩
  replace b0 := hid (heap_grown g5 b0.out)
  replace cs0 := hid (heap_grown g5 cs0.out)
  replace ci0 := hid (heap_grown g5 ci0.out)
  replace gr := hid (Grown_trans gr.out g5)
  clear g5
  go_wp2_with (first | (refine wpList_load_bytes rfl 22 _ rfl _ rfl _ a0 _ 24 b0.out Try.underlying22 (by kernel_rfl) HL0.out ?_) | (refine wpList_load_bytes rfl 25 _ rfl _ rfl _ r0 _ 24 cs0.out Try.underlying25 (by kernel_rfl) HR0.out ?_) | (refine wpList_load_bytes rfl 25 _ rfl _ rfl _ r0 _ 24 ci0.out Try.underlying25 (by kernel_rfl) HR0.out ?_))
  go_ret
  exact ⟨rfl, gr.out⟩

theorem impl_TurnFlag_any (xs : List Int) (hl : xs.length = 24) (hb : Bytes xs) (w : World) :
    Calls Try.prog 22 #[.agg (byteCells xs)] w fun e w' => e = .returned (.tuple #[.agg (byteCells (viewF turnL xs)), .int .i64 (viewC xs)]) ∧ Grown w w' := by
  have hv := viewOf_any 55 turnL turnL_length xs hl hb
  have hf := viewF_length turnL turnL_length xs
  have L := hid hl
  have HL := hid hf
  have HV := hid hv
  clear hl hb hv hf
  have b0 : Hid (((w.alloc (.cells (byteCells xs) 25)).alloc (.cells (byteCells zeros24) 25)).heap[w.heap.size]? = some (.cells (byteCells xs) 25 (0, 0))) := hid (heap_kept (heap_new rfl))
  have b1 : Hid (((w.alloc (.cells (byteCells xs) 25)).alloc (.cells (byteCells zeros24) 25)).heap[w.heap.size + 1]? = some (.cells (byteCells zeros24) 25 (0, 0))) := hid (heap_new (by simp))
  have gr : Hid (Grown w ((w.alloc (.cells (byteCells xs) 25)).alloc (.cells (byteCells zeros24) 25))) := hid (((Grown.refl _).alloc _ _).alloc _ _)
  generalize viewF turnL xs = V at *
  generalize viewC xs = c at *
  go_enter Try.func22, Try.ntmps22
  go_wp2_with (refine wpList_load_bytes rfl 25 _ rfl _ rfl _ xs _ 24 b0.out Try.underlying25 (by kernel_rfl) L.out ?_)
  refine (HV.out _ (callFunc_enter Try.func55 (by kernel_rfl) (by kernel_rfl)) (turned_any xs L.out)).mono ?_
  rintro e w1 ⟨rfl, g1⟩
  replace b1 := hid (heap_grown g1 b1.out)
  replace gr := hid (Grown_trans gr.out g1)
  clear g1 b0
  go_wp2_with (refine wpList_store_bytes rfl 25 _ _ rfl _ V zeros24 rfl rfl _ 24 b1.out (by kernel_rfl) HL.out rfl ?_)
  refine bodyPost_ret (results_bytes2 (by rfl) _ _ _ _ _ _ _ _ rfl rfl (heap_row_set b1.out) Try.underlying25 (by kernel_rfl) HL.out) rfl ⟨rfl, ?_⟩
  exact Grown_setRow gr.out (by omega) _

theorem spec_TurnFlag_any (xs : List Int) (hl : xs.length = 24) (hb : Bytes xs) (w : World) :
    Calls Try.prog 21 #[.agg (byteCells xs)] w fun e w' => e = .returned (.tuple #[.agg (byteCells (viewF turnL xs)), .int .i64 (viewC xs)]) ∧ Grown w w' := by
  have L := hid hl
  have B := hid hb
  have HL := hid (turnL_length xs)
  clear hl hb
  have b0 : Hid (((w.alloc (.cells (byteCells xs) 25)).alloc (.cells (byteCells zeros24) 25)).heap[w.heap.size]? = some (.cells (byteCells xs) 25 (0, 0))) := hid (heap_kept (heap_new rfl))
  have b1 : Hid (((w.alloc (.cells (byteCells xs) 25)).alloc (.cells (byteCells zeros24) 25)).heap[w.heap.size + 1]? = some (.cells (byteCells zeros24) 25 (0, 0))) := hid (heap_new (by simp))
  have gr : Hid (Grown w ((w.alloc (.cells (byteCells xs) 25)).alloc (.cells (byteCells zeros24) 25))) := hid (((Grown.refl _).alloc _ _).alloc _ _)
  cases ho : okB xs
  · have e1 : viewF turnL xs = zeros24 := by simp [viewF, ho]
    have e2 : viewC xs = 1 := by simp [viewC, ho]
    rw [e1, e2]
    clear e1 e2
    go_enter Try.func21, Try.ntmps21
    go_wp2_with (first | (go_at_call 46; refine (l01Ok_any _ _ xs L.out _ (bytesAt_of_block b0.out)).mono ?_; rintro e w' ⟨rfl, rfl⟩) | (refine wpList_build_to rfl 25 rfl built_flag ?_) | (refine wpList_store_bytes rfl 25 _ _ rfl _ zeros24 zeros24 rfl rfl _ 24 b1.out (by kernel_rfl) rfl rfl ?_))
    refine bodyPost_ret (results_bytes2 (by rfl) _ _ _ _ _ _ _ _ rfl rfl (heap_row_set b1.out) Try.underlying25 (by kernel_rfl) rfl) rfl ⟨rfl, ?_⟩
    exact Grown_setRow gr.out (by omega) _
  · have e1 : viewF turnL xs = turnL xs := by simp [viewF, ho]
    have e2 : viewC xs = 0 := by simp [viewC, ho]
    rw [e1, e2]
    clear e1 e2
    go_enter Try.func21, Try.ntmps21
    go_wp2_with (go_at_call 46; refine (l01Ok_any _ _ xs L.out _ (bytesAt_of_block b0.out)).mono ?_; rintro e w' ⟨rfl, rfl⟩)
    refine (l01Turn_any _ _ xs L.out B.out _ (bytesAt_of_block b0.out) (lt_of_heap b0.out)).mono ?_
    rintro e w1 ⟨rfl, g1⟩
    replace b1 := hid (heap_grown g1 b1.out)
    replace gr := hid (Grown_trans gr.out g1)
    clear g1 b0
    go_wp2_with (refine wpList_store_bytes rfl 25 _ _ rfl _ (turnL xs) zeros24 rfl rfl _ 24 b1.out (by kernel_rfl) HL.out rfl ?_)
    refine bodyPost_ret (results_bytes2 (by rfl) _ _ _ _ _ _ _ _ rfl rfl (heap_row_set b1.out) Try.underlying25 (by kernel_rfl) HL.out) rfl ⟨rfl, ?_⟩
    exact Grown_setRow gr.out (by omega) _

set_option maxHeartbeats 1000000 in
set_option linter.unusedVariables false in
theorem FnExactTurnFlag_walk (a0 : List Int) (l0 : a0.length = 24) (w0 : Bytes a0) (w : World) :
    Calls Try.prog 5 #[.agg (byteCells a0)] w fun e w' => e = .returned (.bool true) ∧ Grown w w' := by
  have hs := spec_TurnFlag_any a0 l0 w0
  have hi := impl_TurnFlag_any a0 l0 w0
  have hr0 : (viewF turnL a0).length = 24 := viewF_length turnL turnL_length a0
  generalize viewF turnL a0 = r0 at *
  generalize viewC a0 = r1 at *
  have HS := hid hs
  have HI := hid hi
  clear hs hi
  have HL0 := hid l0
  clear l0 w0
  have HR0 := hid hr0
  clear hr0
  have b0 : Hid ((w.alloc (.cells (byteCells a0) 22)).heap[w.heap.size]? = some (.cells (byteCells a0) 22 (0, 0))) := hid (heap_new rfl)
  have gr : Hid (Grown w (w.alloc (.cells (byteCells a0) 22))) := hid ((Grown.refl _).alloc _ _)
  go_enter Try.func5, Try.ntmps5
  go_wp2_with (first | (refine wpList_load_bytes rfl 22 _ rfl _ rfl _ a0 _ 24 b0.out Try.underlying22 (by kernel_rfl) HL0.out ?_))
  refine (toFlag_any a0 HL0.out _).mono ?_
  rintro e W1 ⟨rfl, g1⟩
  replace b0 := hid (heap_grown g1 b0.out)
  replace gr := hid (Grown_trans gr.out g1)
  clear g1
  go_wp2_with (first | (refine wpList_load_bytes rfl 22 _ rfl _ rfl _ a0 _ 24 b0.out Try.underlying22 (by kernel_rfl) HL0.out ?_))
  refine (HS.out _).mono ?_
  rintro e W2 ⟨rfl, g2⟩
  replace b0 := hid (heap_grown g2 b0.out)
  replace gr := hid (Grown_trans gr.out g2)
  clear g2
  have ns0 := hid (heap_new (w := W2) (o := .cells (byteCells zeros24) 25) rfl)
  have ltb0 := lt_of_heap b0.out
  replace b0 := hid (heap_row_kept (g := W2.heap.size) (cs := byteCells r0) (by omega) (heap_kept (o := .cells (byteCells zeros24) 25) b0.out))
  clear ltb0
  have cs0 := hid (heap_row_set (cs := byteCells r0) ns0.out)
  have gl := gr.out.2.2
  replace gr := hid (Grown_setRow (gr.out.alloc (byteCells zeros24) 25) gl (byteCells r0))
  clear gl
  go_wp2_with (first | (refine wpList_store_bytes rfl 25 _ _ rfl _ r0 zeros24 rfl rfl _ 24 ns0.out (by kernel_rfl) HR0.out rfl ?_) | (refine wpList_load_bytes rfl 22 _ rfl _ rfl _ a0 _ 24 b0.out Try.underlying22 (by kernel_rfl) HL0.out ?_) | (refine wpList_load_bytes rfl 25 _ rfl _ rfl _ r0 _ 24 cs0.out Try.underlying25 (by kernel_rfl) HR0.out ?_))
  refine (toFlag_any a0 HL0.out _).mono ?_
  rintro e W3 ⟨rfl, g3⟩
  replace b0 := hid (heap_grown g3 b0.out)
  replace cs0 := hid (heap_grown g3 cs0.out)
  replace gr := hid (Grown_trans gr.out g3)
  clear g3
  go_wp2_with (first | (refine wpList_load_bytes rfl 22 _ rfl _ rfl _ a0 _ 24 b0.out Try.underlying22 (by kernel_rfl) HL0.out ?_) | (refine wpList_load_bytes rfl 25 _ rfl _ rfl _ r0 _ 24 cs0.out Try.underlying25 (by kernel_rfl) HR0.out ?_))
  refine (HI.out _).mono ?_
  rintro e W4 ⟨rfl, g4⟩
  replace b0 := hid (heap_grown g4 b0.out)
  replace cs0 := hid (heap_grown g4 cs0.out)
  replace gr := hid (Grown_trans gr.out g4)
  clear g4
  have ni0 := hid (heap_new (w := W4) (o := .cells (byteCells zeros24) 25) rfl)
  have ltb0 := lt_of_heap b0.out
  replace b0 := hid (heap_row_kept (g := W4.heap.size) (cs := byteCells r0) (by omega) (heap_kept (o := .cells (byteCells zeros24) 25) b0.out))
  clear ltb0
  have ltcs0 := lt_of_heap cs0.out
  replace cs0 := hid (heap_row_kept (g := W4.heap.size) (cs := byteCells r0) (by omega) (heap_kept (o := .cells (byteCells zeros24) 25) cs0.out))
  clear ltcs0
  have ci0 := hid (heap_row_set (cs := byteCells r0) ni0.out)
  have gl := gr.out.2.2
  replace gr := hid (Grown_setRow (gr.out.alloc (byteCells zeros24) 25) gl (byteCells r0))
  clear gl
  go_wp2_with (first | (refine wpList_store_bytes rfl 25 _ _ rfl _ r0 zeros24 rfl rfl _ 24 ni0.out (by kernel_rfl) HR0.out rfl ?_) | (refine wpList_load_bytes rfl 22 _ rfl _ rfl _ a0 _ 24 b0.out Try.underlying22 (by kernel_rfl) HL0.out ?_) | (refine wpList_load_bytes rfl 25 _ rfl _ rfl _ r0 _ 24 cs0.out Try.underlying25 (by kernel_rfl) HR0.out ?_) | (refine wpList_load_bytes rfl 25 _ rfl _ rfl _ r0 _ 24 ci0.out Try.underlying25 (by kernel_rfl) HR0.out ?_))
  refine (eqFlag_same r0 HR0.out _).mono ?_
  rintro e W5 ⟨rfl, g5⟩
  replace b0 := hid (heap_grown g5 b0.out)
  replace cs0 := hid (heap_grown g5 cs0.out)
  replace ci0 := hid (heap_grown g5 ci0.out)
  replace gr := hid (Grown_trans gr.out g5)
  clear g5
  go_wp2_with (first | (refine wpList_load_bytes rfl 22 _ rfl _ rfl _ a0 _ 24 b0.out Try.underlying22 (by kernel_rfl) HL0.out ?_) | (refine wpList_load_bytes rfl 25 _ rfl _ rfl _ r0 _ 24 cs0.out Try.underlying25 (by kernel_rfl) HR0.out ?_) | (refine wpList_load_bytes rfl 25 _ rfl _ rfl _ r0 _ 24 ci0.out Try.underlying25 (by kernel_rfl) HR0.out ?_))
  go_ret
  exact ⟨rfl, gr.out⟩
end Go.Proofs.Ytflolmjgkmmllab
