/- Blurred flags: the program's; BlurFlag: the functions. -/
import Derived.Test.YtnghcchkiodalaaBlur
namespace Go.Proofs.Ytnghcchkiodalaa
open Go.RowKit
theorem run_index_k {P : Program} {T E : TypeId} {len : Nat} {kd : IntKind} (h : P.underlying T = some (.array len E)) (hE : P.underlying E = some (.int kd)) (hi' : (P.info? E).map (·.size) = some 1)
    (xs : List Int) (k : Nat) (hk : k < len) (hl : xs.length = len) (w : World) :
    (Instr.index T (.agg (kCells kd xs)) (.int .i64 k)).run P w = .ok (.int kd (xs.getD k 0)) w := by
  have hb := kCells_get kd xs k (by omega)
  obtain ⟨i0, hi, hs⟩ := Option.map_eq_some_iff.1 hi'
  have h2 : (0 : Int) ≤ (k : Int) ∧ (k : Int) < (len : Int) := by omega
  simp [Instr.index, run_underlying h, run_underlying hE, asIntOf, h2, go_sem, part, sizeOf, typeInfo, hi, hs, isAgg, hb]
  intro h3; omega
set_option maxHeartbeats 2000000 in
set_option maxRecDepth 100000 in
theorem blockColour_any (xs : List Int) (hl : xs.length = 24) (hb : Bytes xs) (ho : okB xs = true) (b : Nat) (hb6 : b < 6) (w : World) :
    Calls Try.prog 78 #[.agg (byteCells xs), .int .i64 ((b : Int) % 3 * 2), .int .i64 ((b : Int) / 3 * 2)] w fun e w' => e = .returned (.int .u8 (blurAt xs b)) ∧ Grown w w' := by
  have L := hid hl
  have B := hid hb
  have OK := hid ho
  clear hl hb ho
  obtain ⟨X, hX⟩ : ∃ X : Int, X = (b : Int) % 3 * 2 := ⟨_, rfl⟩
  obtain ⟨Y, hY⟩ : ∃ Y : Int, Y = (b : Int) / 3 * 2 := ⟨_, rfl⟩
  rw [← hX, ← hY]
  have hX0 : 0 ≤ X ∧ X ≤ 4 := by omega
  have hY0 : 0 ≤ Y ∧ Y ≤ 2 := by omega
  have HXY := hid (show ∀ j : Nat, j < 4 → X + (j : Int) % 2 + 6 * (Y + (j : Int) / 2) = (blkI b j : Nat) from fun j hj => by unfold blkI; omega)
  obtain ⟨hX1, hX2⟩ := hX0
  obtain ⟨hY1, hY2⟩ := hY0
  clear hX hY
  go_enter Try.func78, Try.ntmps78
  go_wp2_with fail
  go_loopw [12] (fun q wr => ∃ j : Nat, j ≤ 4 ∧ q = .int .i64 j ∧ Hid (Grown w wr) ∧ Hid (wr.heap[w.heap.size]? = some (.cells (byteCells xs) 26 (0, 0))) ∧ Hid (wr.heap[w.heap.size + 1]? = some (.cells (kCells .i64 (blkC xs b j)) 122 (0, 0)))) (fun q _ => 4 - (intOf q).toNat)
  case atStart => exact ⟨0, Nat.zero_le _, rfl, hid (((Grown.refl _).alloc _ _).alloc _ _), hid (heap_kept (heap_new rfl)), hid (by rw [blkC_zero]; exact heap_new (by simp))⟩
  case round =>
    obtain ⟨j, hj, rfl, gr, h0, h2⟩ := hrel
    by_cases hjt : j < 4
    · have hbl := blkI_lt hb6 hjt
      obtain ⟨v, hv, hv6⟩ := cell_nat OK.out B.out (blkI b j) (by rw [L.out]; exact hbl)
      have hcell := cell_of_row wr w.heap.size (blkI b j) _ _ _ h0.out
      rw [byteCells_get xs (blkI b j) (by rw [L.out]; exact hbl), hv] at hcell
      have hc2 := cell_ints h2.out (i := v) (by rw [blkC_length]; exact hv6)
      have hf2 : wr.frozen? ⟨w.heap.size + 1, v, none⟩ = false := frozen_of_row _ _ _ _ _ h2.out
      have HS := hid (blkC_hit hjt hv6 hv)
      obtain ⟨hy0, hy1⟩ := blkC_bd xs b j v
      have hjj := HXY.out j hjt
      clear hv
      generalize (blkC xs b j).getD v 0 = y at *
      have hj0 : (0 : Int) ≤ j := by omega
      have hv0 : (0 : Int) ≤ v := by omega
      have hvI : (v : Int) < 6 := by omega
      have hpI : (blkI b j : Int) < 24 := by omega
      have hp0 : (0 : Int) ≤ (blkI b j : Int) := by omega
      generalize blkI b j = p at *
      go_wp2_with fail
      go_roundw
      case rel => exact ⟨j + 1, by omega, by go_num, hid (gr.out.setCell (by dsimp only; omega) _), hid (heap_stored (by dsimp only; omega) h0.out), hid (by rw [← HS.out]; exact heap_int_set h2.out)⟩
      case measure => simp [intOf] <;> omega
    · have hj4 : j = 4 := by omega
      have H2 : Hid (wr.heap[w.heap.size + 1]? = some (.cells (kCells .i64 (blkC xs b 4)) 122 (0, 0))) := by rw [hj4] at h2; exact h2
      clear h2 hj4 h0
      have HCL := hid (blkC_length xs b 4)
      go_wp2_with (refine wpList_load_cells rfl 122 _ rfl _ rfl _ (kCells .i64 (blkC xs b 4)) _ 6 H2.out Try.underlying122 (by kernel_rfl) (by rw [kCells_size]; exact HCL.out) ?_)
      go_loop [9, 33] (fun m c => ∃ j : Nat, j ≤ 6 ∧ c = .int .i64 j ∧ m = .int .i64 (bestOf (blkC xs b 4) j)) (fun _ c => 6 - (intOf c).toNat)
      case atStart => exact ⟨0, by omega, rfl, rfl⟩
      case round =>
        obtain ⟨c, hc6, rfl, rfl⟩ := hrel
        have hbl : bestOf (blkC xs b 4) c < 6 := by have := bestOf_lt (blkC xs b 4) c; omega
        by_cases hct : c < 6
        · have hix := run_index_k (P := Try.prog) Try.underlying122 Try.underlying3 (by kernel_rfl) (blkC xs b 4) c hct HCL.out
          have hcb := cell_ints H2.out (i := bestOf (blkC xs b 4) c) (by rw [HCL.out]; exact hbl)
          have hc0 : (0 : Int) ≤ c := by omega
          have hcI : (c : Int) < 6 := by omega
          by_cases hgt : (blkC xs b 4).getD (bestOf (blkC xs b 4) c) 0 < (blkC xs b 4).getD c 0
          · have HB := hid (bestOf_yes hgt)
            generalize (blkC xs b 4).getD (bestOf (blkC xs b 4) c) 0 = x at *
            generalize bestOf (blkC xs b 4) c = m at *
            generalize (blkC xs b 4).getD c 0 = y at *
            have hm0 : (0 : Int) ≤ m := by omega
            have hmI : (m : Int) < 6 := by omega
            go_wp2_with fail
            go_round
            case rel => exact ⟨c + 1, by omega, by go_num, by rw [HB.out]⟩
            case measure => simp [intOf] <;> omega
          · have HB := hid (bestOf_no hgt)
            generalize (blkC xs b 4).getD (bestOf (blkC xs b 4) c) 0 = x at *
            generalize bestOf (blkC xs b 4) c = m at *
            generalize (blkC xs b 4).getD c 0 = y at *
            have hm0 : (0 : Int) ≤ m := by omega
            have hmI : (m : Int) < 6 := by omega
            go_wp2_with fail
            go_round
            case rel => exact ⟨c + 1, by omega, by go_num, by rw [HB.out]⟩
            case measure => simp [intOf] <;> omega
        · have hce : c = 6 := by omega
          have hbb : bestOf (blkC xs b 4) c = blurAt xs b := by rw [hce]; rfl
          rw [hbb] at hbl ⊢
          clear hbb hce
          generalize hq : blurAt xs b = q at *
          have HQ := hid hq
          clear hq
          have hq0 : (0 : Int) ≤ q := by omega
          have hqI : (q : Int) ≤ 255 := by omega
          go_wp2_with fail
          go_ret
          exact ⟨by rw [HQ.out]; rfl, gr.out⟩
set_option maxHeartbeats 2000000 in
theorem blurred_any (xs : List Int) (hl : xs.length = 24) (hb : Bytes xs) (ho : okB xs = true) (w : World) :
    Calls Try.prog 48 #[.agg (byteCells xs)] w fun e w' => e = .returned (.agg (byteCells (blurL xs))) ∧ Grown w w' := by
  have HBC := hid (fun k hk W => blockColour_any xs hl hb ho k hk W)
  have L := hid hl
  clear hl hb ho
  go_enter Try.func48, Try.ntmps48
  go_wp2_with fail
  go_loopw [5] (fun i wr => ∃ k : Nat, k ≤ 6 ∧ i = .int .i64 k ∧ Hid (Grown w wr) ∧ Hid (wr.heap[w.heap.size]? = some (.cells (byteCells xs) 26 (0, 0))) ∧ Hid (wr.heap[w.heap.size + 1]? = some (.cells (byteCells zeros6) 23 (0, 0))) ∧ Hid (wr.heap[w.heap.size + 1 + 1]? = some (.cells (byteCells (fillTo 6 (fun b => (blurAt xs b : Int)) k)) 23 (0, 0)))) (fun i _ => 6 - (intOf i).toNat)
  case atStart => exact ⟨0, Nat.zero_le _, rfl, hid ((((Grown.refl _).alloc _ _).alloc _ _).alloc _ _), hid (heap_kept (heap_kept (heap_new rfl))), hid (heap_kept (heap_new (by simp))), hid (by rw [fillTo_zero]; exact heap_new (by simp))⟩
  case round =>
    obtain ⟨k, hk, rfl, gr, hf, h0, h1⟩ := hrel
    by_cases hlt : k < 6
    · have HC := hid (HBC.out k hlt wr)
      have hk0 : (0 : Int) ≤ k := by omega
      have hk6 : (k : Int) < 6 := by omega
      have e1 : (k : Int).tmod 3 = (k : Int) % 3 := Int.tmod_eq_emod_of_nonneg hk0
      have e3 : IntKind.i64.wrap ((k : Int) % 3 * 2) = (k : Int) % 3 * 2 := IntWalk.i64_in _ (by omega)
      have e5 : IntKind.i64.wrap ((k : Int) / 3) = (k : Int) / 3 := IntWalk.i64_in _ (by omega)
      have e7 : IntKind.i64.wrap ((k : Int) / 3 * 2) = (k : Int) / 3 * 2 := IntWalk.i64_in _ (by omega)
      have hlf := fillTo_length 6 (fun b => (blurAt xs b : Int)) k hk
      have HLF := hid hlf
      have HSET := hid (fillTo_set 6 (fun b => (blurAt xs b : Int)) k hlt)
      clear hlf
      go_wp2_with (refine wpList_load_bytes rfl 26 _ rfl _ rfl _ xs _ 24 hf.out Try.underlying26 (by kernel_rfl) L.out ?_)
      clear e1 e3 e5 e7
      refine HC.out.mono ?_
      rintro e w2 ⟨rfl, g⟩
      replace hf := hid (heap_grown g hf.out)
      replace h0 := hid (heap_grown g h0.out)
      replace h1 := hid (heap_grown g h1.out)
      replace gr := hid (Grown_trans gr.out g)
      have hcf : w2.cell? ⟨w.heap.size + 1 + 1, k, none⟩ = some (.int .u8 ((fillTo 6 (fun b => (blurAt xs b : Int)) k).getD k 0)) := cell_ints (k := .u8) h1.out (by rw [HLF.out]; exact hlt)
      have hff : w2.frozen? ⟨w.heap.size + 1 + 1, k, none⟩ = false := frozen_of_row _ _ _ _ _ h1.out
      clear g HC
      generalize (fillTo 6 (fun b => (blurAt xs b : Int)) k).getD k 0 = y at *
      generalize hq : blurAt xs k = q at *
      have HQ := hid hq
      clear hq
      go_wp2_with fail
      go_roundw
      case rel => exact ⟨k + 1, by omega, by go_num, hid (gr.out.setCell (by dsimp only; omega) _), hid (heap_stored (by dsimp only; omega) hf.out), hid (heap_stored (by dsimp only; omega) h0.out), hid (by rw [← HSET.out]; have := heap_byte_set (i := k) (x := (q : Int)) h1.out; rw [← HQ.out] at this ⊢; exact this)⟩
      case measure => simp [intOf] <;> omega
    · have hk6 : k = 6 := by omega
      have H1 : Hid (wr.heap[w.heap.size + 1 + 1]? = some (.cells (byteCells (blurL xs)) 23 (0, 0))) := by rw [hk6, fillTo_all] at h1; exact h1
      have HL := hid (blurL_length xs)
      clear hk6 h1 hf
      go_wp2_with (first | (refine wpList_load_bytes rfl 23 _ rfl _ rfl _ (blurL xs) _ 6 H1.out Try.underlying23 (by kernel_rfl) HL.out ?_) | (refine wpList_store_bytes rfl 23 _ _ rfl _ (blurL xs) zeros6 rfl rfl _ 6 h0.out (by kernel_rfl) HL.out rfl ?_))
      refine bodyPost_ret (results_bytes1 (by rfl) _ _ _ _ _ _ _ rfl (heap_row_set h0.out) Try.underlying23 (by kernel_rfl) HL.out) rfl ⟨rfl, ?_⟩
      exact Grown_setRow gr.out (by omega) _
def blurF (xs : List Int) : List Int := if okB xs then blurL xs else zeros6
def okC (xs : List Int) : Int := if okB xs then 0 else 1
theorem blurF_length (xs : List Int) : (blurF xs).length = 6 := by
  unfold blurF
  split
  · exact blurL_length xs
  · rfl
set_option maxHeartbeats 2000000 in
theorem spec_BlurFlag_any (xs : List Int) (hl : xs.length = 24) (hb : Bytes xs) (w : World) :
    Calls Try.prog 13 #[.agg (byteCells xs)] w fun e w' => e = .returned (.tuple #[.agg (byteCells (blurF xs)), .int .i64 (okC xs)]) ∧ Grown w w' := by
  have L := hid hl
  have B := hid hb
  clear hl hb
  have b0 : Hid (((w.alloc (.cells (byteCells xs) 26)).alloc (.cells (byteCells zeros6) 23)).heap[w.heap.size]? = some (.cells (byteCells xs) 26 (0, 0))) := hid (heap_kept (heap_new rfl))
  have b1 : Hid (((w.alloc (.cells (byteCells xs) 26)).alloc (.cells (byteCells zeros6) 23)).heap[w.heap.size + 1]? = some (.cells (byteCells zeros6) 23 (0, 0))) := hid (heap_new (by simp))
  have gr : Hid (Grown w ((w.alloc (.cells (byteCells xs) 26)).alloc (.cells (byteCells zeros6) 23))) := hid (((Grown.refl _).alloc _ _).alloc _ _)
  cases ho : okB xs
  · have e1 : blurF xs = zeros6 := by unfold blurF; rw [if_neg (by rw [ho]; simp)]
    have e2 : okC xs = 1 := by unfold okC; rw [if_neg (by rw [ho]; simp)]
    rw [e1, e2]
    clear e1 e2
    go_enter Try.func13, Try.ntmps13
    go_wp2_with fail
    refine (l01Ok_any _ _ xs L.out _ (bytesAt_of_block b0.out)).mono ?_
    rintro e w' ⟨rfl, rfl⟩
    go_wp2_with (first | (refine wpList_build_to rfl 23 rfl built_six ?_) | (refine wpList_store_bytes rfl 23 _ _ rfl _ zeros6 zeros6 rfl rfl _ 6 b1.out (by kernel_rfl) rfl rfl ?_))
    refine bodyPost_ret (results_bytes2 (by rfl) _ _ _ _ _ _ _ _ rfl rfl (heap_row_set b1.out) Try.underlying23 (by kernel_rfl) rfl) rfl ⟨rfl, ?_⟩
    exact Grown_setRow gr.out (by omega) _
  · have e1 : blurF xs = blurL xs := by unfold blurF; rw [if_pos ho]
    have e2 : okC xs = 0 := by unfold okC; rw [if_pos ho]
    rw [e1, e2]
    have HO := hid ho
    have HL := hid (blurL_length xs)
    clear e1 e2
    go_enter Try.func13, Try.ntmps13
    go_wp2_with fail
    refine (l01Ok_any _ _ xs L.out _ (bytesAt_of_block b0.out)).mono ?_
    rintro e w' ⟨rfl, rfl⟩
    go_wp2_with fail
    refine (l01Blur_any _ _ xs L.out B.out HO.out _ (bytesAt_of_block b0.out) (lt_of_heap b0.out)).mono ?_
    rintro e w2 ⟨rfl, g⟩
    replace b1 := hid (heap_grown g b1.out)
    replace gr := hid (Grown_trans gr.out g)
    clear g b0
    go_wp2_with (refine wpList_store_bytes rfl 23 _ _ rfl _ (blurL xs) zeros6 rfl rfl _ 6 b1.out (by kernel_rfl) HL.out rfl ?_)
    refine bodyPost_ret (results_bytes2 (by rfl) _ _ _ _ _ _ _ _ rfl rfl (heap_row_set b1.out) Try.underlying23 (by kernel_rfl) HL.out) rfl ⟨rfl, ?_⟩
    exact Grown_setRow gr.out (by omega) _
set_option maxHeartbeats 2000000 in
theorem impl_BlurFlag_any (xs : List Int) (hl : xs.length = 24) (hb : Bytes xs) (w : World) :
    Calls Try.prog 15 #[.agg (byteCells xs)] w fun e w' => e = .returned (.tuple #[.agg (byteCells (blurF xs)), .int .i64 (okC xs)]) ∧ Grown w w' := by
  have L := hid hl
  have B := hid hb
  clear hl hb
  have b0 : Hid (((w.alloc (.cells (byteCells xs) 26)).alloc (.cells (byteCells zeros6) 23)).heap[w.heap.size]? = some (.cells (byteCells xs) 26 (0, 0))) := hid (heap_kept (heap_new rfl))
  have b1 : Hid (((w.alloc (.cells (byteCells xs) 26)).alloc (.cells (byteCells zeros6) 23)).heap[w.heap.size + 1]? = some (.cells (byteCells zeros6) 23 (0, 0))) := hid (heap_new (by simp))
  have gr : Hid (Grown w ((w.alloc (.cells (byteCells xs) 26)).alloc (.cells (byteCells zeros6) 23))) := hid (((Grown.refl _).alloc _ _).alloc _ _)
  cases ho : okB xs
  · have e1 : blurF xs = zeros6 := by unfold blurF; rw [if_neg (by rw [ho]; simp)]
    have e2 : okC xs = 1 := by unfold okC; rw [if_neg (by rw [ho]; simp)]
    rw [e1, e2]
    clear e1 e2
    go_enter Try.func15, Try.ntmps15
    go_wp2_with (refine wpList_load_bytes rfl 26 _ rfl _ rfl _ xs _ 24 b0.out Try.underlying26 (by kernel_rfl) L.out ?_)
    refine (impl_ValidFlag_any xs L.out B.out _).mono ?_
    rintro e w1 ⟨rfl, g⟩
    replace b1 := hid (heap_grown g b1.out)
    replace gr := hid (Grown_trans gr.out g)
    clear g b0
    go_wp2_with (first | (refine wpList_build_to rfl 23 rfl built_six ?_) | (refine wpList_store_bytes rfl 23 _ _ rfl _ zeros6 zeros6 rfl rfl _ 6 b1.out (by kernel_rfl) rfl rfl ?_))
    refine bodyPost_ret (results_bytes2 (by rfl) _ _ _ _ _ _ _ _ rfl rfl (heap_row_set b1.out) Try.underlying23 (by kernel_rfl) rfl) rfl ⟨rfl, ?_⟩
    exact Grown_setRow gr.out (by omega) _
  · have e1 : blurF xs = blurL xs := by unfold blurF; rw [if_pos ho]
    have e2 : okC xs = 0 := by unfold okC; rw [if_pos ho]
    rw [e1, e2]
    have HO := hid ho
    have HL := hid (blurL_length xs)
    clear e1 e2
    go_enter Try.func15, Try.ntmps15
    go_wp2_with (refine wpList_load_bytes rfl 26 _ rfl _ rfl _ xs _ 24 b0.out Try.underlying26 (by kernel_rfl) L.out ?_)
    refine (impl_ValidFlag_any xs L.out B.out _).mono ?_
    rintro e w1 ⟨rfl, g⟩
    replace b0 := hid (heap_grown g b0.out)
    replace b1 := hid (heap_grown g b1.out)
    replace gr := hid (Grown_trans gr.out g)
    clear g
    go_wp2_with (refine wpList_load_bytes rfl 26 _ rfl _ rfl _ xs _ 24 b0.out Try.underlying26 (by kernel_rfl) L.out ?_)
    refine (blurred_any xs L.out B.out HO.out _).mono ?_
    rintro e w2 ⟨rfl, g⟩
    replace b1 := hid (heap_grown g b1.out)
    replace gr := hid (Grown_trans gr.out g)
    clear g b0
    go_wp2_with (refine wpList_store_bytes rfl 23 _ _ rfl _ (blurL xs) zeros6 rfl rfl _ 6 b1.out (by kernel_rfl) HL.out rfl ?_)
    refine bodyPost_ret (results_bytes2 (by rfl) _ _ _ _ _ _ _ _ rfl rfl (heap_row_set b1.out) Try.underlying23 (by kernel_rfl) HL.out) rfl ⟨rfl, ?_⟩
    exact Grown_setRow gr.out (by omega) _
end Go.Proofs.Ytnghcchkiodalaa
