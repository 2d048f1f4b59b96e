/- DistanceOf: the two functions and the law's walk. -/
import Derived.Test.YtflolmjgkmmllabDist
import Derived.Test.YtflolmjgkmmllabToFlag
namespace Go.Proofs.Ytflolmjgkmmllab
open Go.RowKit
def distV (xs ys : List Int) : Int := if okB xs && okB ys then diffTo xs ys 24 else 0
def distC (xs ys : List Int) : Int := if okB xs && okB ys then 0 else 1

set_option maxHeartbeats 1000000 in
theorem spec_DistanceOf_any (xs : List Int) (lx : xs.length = 24) (hx : Bytes xs) (ys : List Int) (ly : ys.length = 24) (hy : Bytes ys) (w : World) :
    Calls Try.prog 28 #[.agg (byteCells xs), .agg (byteCells ys)] w fun e w' => e = .returned (.tuple #[.int .i64 (distV xs ys), .int .i64 (distC xs ys)]) ∧ Grown w w' := by
  have LX := hid lx
  have LY := hid ly
  have BX := hid hx
  have BY := hid hy
  clear lx ly hx hy
  have b0 : Hid (((w.alloc (.cells (byteCells xs) 25)).alloc (.cells (byteCells ys) 25)).heap[w.heap.size]? = some (.cells (byteCells xs) 25 (0, 0))) := hid (heap_kept (heap_new rfl))
  have b1 : Hid (((w.alloc (.cells (byteCells xs) 25)).alloc (.cells (byteCells ys) 25)).heap[w.heap.size + 1]? = some (.cells (byteCells ys) 25 (0, 0))) := hid (heap_new (by simp))
  have gr : Hid (Grown w ((w.alloc (.cells (byteCells xs) 25)).alloc (.cells (byteCells ys) 25))) := hid (((Grown.refl w).alloc _ _).alloc _ _)
  cases ho : okB xs
  · skip
    have e1 : distV xs ys = 0 := by simp [distV, ho]
    have e2 : distC xs ys = 1 := by simp [distC, ho]
    rw [e1, e2]
    clear e1 e2
    go_enter Try.func28, Try.ntmps28
    go_wp2_with fail
    refine (l01Ok_any _ _ xs LX.out _ (bytesAt_of_block b0.out)).mono ?_
    rintro e w' ⟨rfl, rfl⟩
    go_wp2_with fail
    go_ret2
    exact ⟨rfl, gr.out⟩
  · cases hp : okB ys
    · skip
      have e1 : distV xs ys = 0 := by simp [distV, ho, hp]
      have e2 : distC xs ys = 1 := by simp [distC, ho, hp]
      rw [e1, e2]
      clear e1 e2
      go_enter Try.func28, Try.ntmps28
      go_wp2_with fail
      refine (l01Ok_any _ _ xs LX.out _ (bytesAt_of_block b0.out)).mono ?_
      rintro e w' ⟨rfl, rfl⟩
      go_wp2_with fail
      refine (l01Ok_any _ _ ys LY.out _ (bytesAt_of_block b1.out)).mono ?_
      rintro e w' ⟨rfl, rfl⟩
      go_wp2_with fail
      go_ret2
      exact ⟨rfl, gr.out⟩
    · skip
      have e1 : distV xs ys = diffTo xs ys 24 := by simp [distV, ho, hp]
      have e2 : distC xs ys = 0 := by simp [distC, ho, hp]
      rw [e1, e2]
      clear e1 e2
      go_enter Try.func28, Try.ntmps28
      go_wp2_with fail
      refine (l01Ok_any _ _ xs LX.out _ (bytesAt_of_block b0.out)).mono ?_
      rintro e w' ⟨rfl, rfl⟩
      go_wp2_with fail
      refine (l01Ok_any _ _ ys LY.out _ (bytesAt_of_block b1.out)).mono ?_
      rintro e w' ⟨rfl, rfl⟩
      go_wp2_with fail
      refine (l01Distance_any _ _ _ _ xs ys LX.out LY.out _ (bytesAt_of_block b0.out) (bytesAt_of_block b1.out)).mono ?_
      rintro e w3 ⟨rfl, g3⟩
      have G3 := hid (Grown_trans gr.out g3.grown)
      clear g3
      go_wp2_with fail
      go_ret2
      exact ⟨rfl, G3.out⟩

set_option maxHeartbeats 1000000 in
theorem impl_DistanceOf_any (xs : List Int) (lx : xs.length = 24) (hx : Bytes xs) (ys : List Int) (ly : ys.length = 24) (hy : Bytes ys) (w : World) :
    Calls Try.prog 29 #[.agg (byteCells xs), .agg (byteCells ys)] w fun e w' => e = .returned (.tuple #[.int .i64 (distV xs ys), .int .i64 (distC xs ys)]) ∧ Grown w w' := by
  have LX := hid lx
  have LY := hid ly
  have BX := hid hx
  have BY := hid hy
  clear lx ly hx hy
  have b0 : Hid (((w.alloc (.cells (byteCells xs) 25)).alloc (.cells (byteCells ys) 25)).heap[w.heap.size]? = some (.cells (byteCells xs) 25 (0, 0))) := hid (heap_kept (heap_new rfl))
  have b1 : Hid (((w.alloc (.cells (byteCells xs) 25)).alloc (.cells (byteCells ys) 25)).heap[w.heap.size + 1]? = some (.cells (byteCells ys) 25 (0, 0))) := hid (heap_new (by simp))
  have gr : Hid (Grown w ((w.alloc (.cells (byteCells xs) 25)).alloc (.cells (byteCells ys) 25))) := hid (((Grown.refl w).alloc _ _).alloc _ _)
  cases ho : okB xs
  · skip
    have e1 : distV xs ys = 0 := by simp [distV, ho]
    have e2 : distC xs ys = 1 := by simp [distC, ho]
    rw [e1, e2]
    clear e1 e2
    go_enter Try.func29, Try.ntmps29
    go_wp2_with (refine wpList_load_bytes rfl 25 _ rfl _ rfl _ xs _ 24 b0.out Try.underlying25 (by kernel_rfl) LX.out ?_)
    refine (impl_ValidFlag_any xs LX.out BX.out _).mono ?_
    rintro e w1 ⟨rfl, g1⟩
    replace b0 := hid (heap_grown g1 b0.out)
    replace b1 := hid (heap_grown g1 b1.out)
    replace gr := hid (Grown_trans gr.out g1)
    clear g1
    go_wp2_with fail
    go_ret2
    exact ⟨rfl, gr.out⟩
  · cases hp : okB ys
    · skip
      have e1 : distV xs ys = 0 := by simp [distV, ho, hp]
      have e2 : distC xs ys = 1 := by simp [distC, ho, hp]
      rw [e1, e2]
      clear e1 e2
      go_enter Try.func29, Try.ntmps29
      go_wp2_with (refine wpList_load_bytes rfl 25 _ rfl _ rfl _ xs _ 24 b0.out Try.underlying25 (by kernel_rfl) LX.out ?_)
      refine (impl_ValidFlag_any xs LX.out BX.out _).mono ?_
      rintro e w1 ⟨rfl, g1⟩
      replace b0 := hid (heap_grown g1 b0.out)
      replace b1 := hid (heap_grown g1 b1.out)
      replace gr := hid (Grown_trans gr.out g1)
      clear g1
      go_wp2_with (refine wpList_load_bytes rfl 25 _ rfl _ rfl _ ys _ 24 b1.out Try.underlying25 (by kernel_rfl) LY.out ?_)
      refine (impl_ValidFlag_any ys LY.out BY.out _).mono ?_
      rintro e w2 ⟨rfl, g2⟩
      replace b0 := hid (heap_grown g2 b0.out)
      replace b1 := hid (heap_grown g2 b1.out)
      replace gr := hid (Grown_trans gr.out g2)
      clear g2
      go_wp2_with fail
      go_ret2
      exact ⟨rfl, gr.out⟩
    · skip
      have e1 : distV xs ys = diffTo xs ys 24 := by simp [distV, ho, hp]
      have e2 : distC xs ys = 0 := by simp [distC, ho, hp]
      rw [e1, e2]
      clear e1 e2
      go_enter Try.func29, Try.ntmps29
      go_wp2_with (refine wpList_load_bytes rfl 25 _ rfl _ rfl _ xs _ 24 b0.out Try.underlying25 (by kernel_rfl) LX.out ?_)
      refine (impl_ValidFlag_any xs LX.out BX.out _).mono ?_
      rintro e w1 ⟨rfl, g1⟩
      replace b0 := hid (heap_grown g1 b0.out)
      replace b1 := hid (heap_grown g1 b1.out)
      replace gr := hid (Grown_trans gr.out g1)
      clear g1
      go_wp2_with (refine wpList_load_bytes rfl 25 _ rfl _ rfl _ ys _ 24 b1.out Try.underlying25 (by kernel_rfl) LY.out ?_)
      refine (impl_ValidFlag_any ys LY.out BY.out _).mono ?_
      rintro e w2 ⟨rfl, g2⟩
      replace b0 := hid (heap_grown g2 b0.out)
      replace b1 := hid (heap_grown g2 b1.out)
      replace gr := hid (Grown_trans gr.out g2)
      clear g2
      go_wp2_with fail
      go_quiet ((go_at_call 59; exact Calls.quiet_of (placesApart_any _ _ _ _ 24 xs ys LX.out LY.out (by omega) _ (sliceOf_block (k := .u8) (w := w2.drewN _) b0.out) (sliceOf_block (k := .u8) (w := w2.drewN _) b1.out))))
      go_wp2_with fail
      go_ret2
      exact ⟨rfl, gr.out.drewN _⟩

@[local go_sem ↓] theorem load_a24 (ρ : Operand → Value) (o : Oper) (w : World) (ho : loadsOf 22 o = true) (h : (rowOf w (ρ (loadsFrom o)) 24).isSome = true) :
    (execOp ρ o).run Try.prog w = .ok (.value (.agg ((rowOf w (ρ (loadsFrom o)) 24).getD #[]))) w := run_execOp_rowOf Try.underlying22 (by kernel_rfl) ρ o w ho h
attribute [local go_sem] rowOf_drew loadsOf loadsFrom
set_option maxHeartbeats 4000000 in
set_option maxRecDepth 100000 in
theorem FnExactDistanceOf_walk (a0 : List Int) (l0 : a0.length = 24) (w0 : Bytes a0) (a1 : List Int) (l1 : a1.length = 24) (w1 : Bytes a1) (w : World) :
    Calls Try.prog 8 #[.agg (byteCells a0), .agg (byteCells a1)] w fun e w' => e = .returned (.bool true) ∧ Grown w w' := by
  have hs := spec_DistanceOf_any a0 l0 w0 a1 l1 w1
  have hi := impl_DistanceOf_any a0 l0 w0 a1 l1 w1
  generalize distV a0 a1 = r0 at *
  generalize distC a0 a1 = r1 at *
  have HS := hid hs
  have HI := hid hi
  have HL0 := hid l0
  have HL1 := hid l1
  have q0 : rowOf ((w.alloc (.cells (byteCells a0) 22)).alloc (.cells (byteCells a1) 22)) (.pointer (some ⟨w.heap.size, 0, none⟩)) 24 = some (byteCells a0) := rowOf_block (heap_kept (heap_new rfl)) (by rw [byteCells_size]; exact l0)
  have q1 : rowOf ((w.alloc (.cells (byteCells a0) 22)).alloc (.cells (byteCells a1) 22)) (.pointer (some ⟨w.heap.size + 1, 0, none⟩)) 24 = some (byteCells a1) := rowOf_block (heap_new (by simp)) (by rw [byteCells_size]; exact l1)
  have gr : Grown w ((w.alloc (.cells (byteCells a0) 22)).alloc (.cells (byteCells a1) 22)) := ((Grown.refl w).alloc _ _).alloc _ _
  clear hs hi l0 l1 w0 w1
  obtain ⟨W, hW⟩ : ∃ W, W = ((w.alloc (.cells (byteCells a0) 22)).alloc (.cells (byteCells a1) 22)) := ⟨_, rfl⟩
  have hW' := hid hW
  clear hW
  have Q0 := hid q0
  have Q1 := hid q1
  clear q0 q1
  go_enter Try.func8, Try.ntmps8
  go_wp2_with fail
  rw [← hW'.out] at Q0 Q1 gr ⊢
  clear hW'
  have q0 := Q0.out
  have q1 := Q1.out
  clear Q0 Q1
  refine Code.wp_mono (Q := Exit.then (fun a w' => a = ({ tmps := #[.agg (byteCells a0), .agg (byteCells a1), (.pointer (some ⟨w.heap.size, 0, none⟩)), (.pointer (some ⟨w.heap.size + 1, 0, none⟩)), .bool false, .int .i64 r0, .int .i64 r1, undef, undef, .tuple #[.int .i64 r0, .int .i64 r1], .agg (byteCells a0), .agg (byteCells a0), .agg (byteCells a1), .agg (byteCells a1), .tuple #[.int .i64 r0, .int .i64 r1], .int .i64 r0, .int .i64 r1, undef, undef, undef, undef, undef, undef, undef, undef, undef, undef, undef, undef, undef, undef, undef, undef], defers := [] } : Act) ∧ (Grown w w' ∧ rowOf w' (.pointer (some ⟨w.heap.size, 0, none⟩)) 24 = some (byteCells a0) ∧ rowOf w' (.pointer (some ⟨w.heap.size + 1, 0, none⟩)) 24 = some (byteCells a1))) (fun _ _ _ => False)) ?k1 ?r1
  case r1 =>
    go_region_with (first | ((with_reducible refine (toFlag_any a0 HL0.out _).mono ?_); rintro e V1a ⟨rfl, g1a⟩; have gr1a : Grown w V1a := (by first | exact Grown_trans (by assumption) g1a | exact Grown_trans (Grown.drew (by assumption)) g1a); have p1a := rowOf_grown g1a (by assumption : rowOf _ (.pointer (some ⟨w.heap.size, 0, none⟩)) 24 = some (byteCells a0)); have o1a := rowOf_grown g1a (by assumption : rowOf _ (.pointer (some ⟨w.heap.size + 1, 0, none⟩)) 24 = some (byteCells a1))) | ((with_reducible refine (toFlag_any a1 HL1.out _).mono ?_); rintro e V1b ⟨rfl, g1b⟩; have gr1b : Grown w V1b := (by first | exact Grown_trans (by assumption) g1b | exact Grown_trans (Grown.drew (by assumption)) g1b); have p1b := rowOf_grown g1b (by assumption : rowOf _ (.pointer (some ⟨w.heap.size, 0, none⟩)) 24 = some (byteCells a0)); have o1b := rowOf_grown g1b (by assumption : rowOf _ (.pointer (some ⟨w.heap.size + 1, 0, none⟩)) 24 = some (byteCells a1))) | ((with_reducible refine (HS.out _).mono ?_); rintro e V1c ⟨rfl, g1c⟩; have gr1c : Grown w V1c := (by first | exact Grown_trans (by assumption) g1c | exact Grown_trans (Grown.drew (by assumption)) g1c); have p1c := rowOf_grown g1c (by assumption : rowOf _ (.pointer (some ⟨w.heap.size, 0, none⟩)) 24 = some (byteCells a0)); have o1c := rowOf_grown g1c (by assumption : rowOf _ (.pointer (some ⟨w.heap.size + 1, 0, none⟩)) 24 = some (byteCells a1))))
    all_goals exact ⟨rfl, by assumption, by assumption, by assumption⟩
  case k1 =>
    clear gr q0 q1
    intro e a W1 h
    cases e <;> first | exact h.elim | skip
    obtain ⟨rfl, gr, q0, q1⟩ := h
    go_wp2_with fail
    refine Code.wp_mono (Q := Exit.then (fun a w' => a = ({ tmps := #[.agg (byteCells a0), .agg (byteCells a1), (.pointer (some ⟨w.heap.size, 0, none⟩)), (.pointer (some ⟨w.heap.size + 1, 0, none⟩)), .bool false, .int .i64 r0, .int .i64 r1, .int .i64 r0, .int .i64 r1, .tuple #[.int .i64 r0, .int .i64 r1], .agg (byteCells a0), .agg (byteCells a0), .agg (byteCells a1), .agg (byteCells a1), .tuple #[.int .i64 r0, .int .i64 r1], .int .i64 r0, .int .i64 r1, .tuple #[.int .i64 r0, .int .i64 r1], .agg (byteCells a0), .agg (byteCells a0), .agg (byteCells a1), .agg (byteCells a1), .tuple #[.int .i64 r0, .int .i64 r1], .int .i64 r0, .int .i64 r1, undef, undef, undef, undef, undef, undef, undef, undef], defers := [] } : Act) ∧ (Grown w w' ∧ rowOf w' (.pointer (some ⟨w.heap.size, 0, none⟩)) 24 = some (byteCells a0) ∧ rowOf w' (.pointer (some ⟨w.heap.size + 1, 0, none⟩)) 24 = some (byteCells a1))) (fun _ _ _ => False)) ?k2 ?r2
    case r2 =>
      go_region_with (first | ((with_reducible refine (toFlag_any a0 HL0.out _).mono ?_); rintro e V2a ⟨rfl, g2a⟩; have gr2a : Grown w V2a := (by first | exact Grown_trans (by assumption) g2a | exact Grown_trans (Grown.drew (by assumption)) g2a); have p2a := rowOf_grown g2a (by assumption : rowOf _ (.pointer (some ⟨w.heap.size, 0, none⟩)) 24 = some (byteCells a0)); have o2a := rowOf_grown g2a (by assumption : rowOf _ (.pointer (some ⟨w.heap.size + 1, 0, none⟩)) 24 = some (byteCells a1))) | ((with_reducible refine (toFlag_any a1 HL1.out _).mono ?_); rintro e V2b ⟨rfl, g2b⟩; have gr2b : Grown w V2b := (by first | exact Grown_trans (by assumption) g2b | exact Grown_trans (Grown.drew (by assumption)) g2b); have p2b := rowOf_grown g2b (by assumption : rowOf _ (.pointer (some ⟨w.heap.size, 0, none⟩)) 24 = some (byteCells a0)); have o2b := rowOf_grown g2b (by assumption : rowOf _ (.pointer (some ⟨w.heap.size + 1, 0, none⟩)) 24 = some (byteCells a1))) | ((with_reducible refine (HI.out _).mono ?_); rintro e V2c ⟨rfl, g2c⟩; have gr2c : Grown w V2c := (by first | exact Grown_trans (by assumption) g2c | exact Grown_trans (Grown.drew (by assumption)) g2c); have p2c := rowOf_grown g2c (by assumption : rowOf _ (.pointer (some ⟨w.heap.size, 0, none⟩)) 24 = some (byteCells a0)); have o2c := rowOf_grown g2c (by assumption : rowOf _ (.pointer (some ⟨w.heap.size + 1, 0, none⟩)) 24 = some (byteCells a1))))
      all_goals exact ⟨rfl, by assumption, by assumption, by assumption⟩
    case k2 =>
      clear gr q0 q1
      intro e a W2 h
      cases e <;> first | exact h.elim | skip
      obtain ⟨rfl, gr, q0, q1⟩ := h
      go_wp2_with fail
      go_ret
      exact ⟨rfl, gr⟩
end Go.Proofs.Ytflolmjgkmmllab
