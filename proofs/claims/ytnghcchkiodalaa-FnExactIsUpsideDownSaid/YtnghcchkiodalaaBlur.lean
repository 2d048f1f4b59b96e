/- Blurred flags: the model's. -/
import Derived.Test.YtnghcchkiodalaaViews
import Derived.Test.YtnghcchkiodalaaCols
import Derived.Test.YtnghcchkiodalaaArr6
namespace Go.Proofs.Ytnghcchkiodalaa
open Go.RowKit
theorem built_six : Try.prog.built 23 [] = some (byteCells zeros6) := by kernel_rfl
theorem built_cnt : Try.prog.built 102 [] = some (kCells .i64 zeros6) := by kernel_rfl
theorem cell_nat {xs : List Int} (ho : okB xs = true) (hb : Bytes xs) (k : Nat) (hk : k < xs.length) : ∃ v : Nat, xs.getD k 0 = (v : Int) ∧ v < 6 := by
  have h1 := (hb.get k).1
  have h2 : xs.getD k 0 ≤ 5 := by
    unfold okB at ho
    have := List.all_eq_true.1 ho _ (List.getElem_mem hk)
    simpa [List.getD, List.getElem?_eq_getElem hk] using this
  exact ⟨(xs.getD k 0).toNat, by omega, by omega⟩
theorem blkC_bd (xs : List Int) (b k v : Nat) : 0 ≤ (blkC xs b k).getD v 0 ∧ (blkC xs b k).getD v 0 ≤ k := colL_bd _ _ _ _ _
theorem blkC_zero (xs : List Int) (b : Nat) : blkC xs b 0 = zeros6 := colL_zero _ _ _
set_option maxHeartbeats 4000000 in
set_option maxRecDepth 100000 in
theorem l01Blur_any (b off : Nat) (xs : List Int) (hl : xs.length = 24) (hb : Bytes xs) (ho : okB xs = true) (w : World) (hc : BytesAt w b off xs) (hlt0 : b < w.heap.size) :
    Calls Try.prog 46 #[.pointer (some ⟨b, off, none⟩)] w fun e w' => e = .returned (.agg (byteCells (blurL xs))) ∧ Grown w w' := by
  have L := hid hl
  have C := hid hc
  have B := hid hb
  have OK := hid ho
  have LT0 := hid hlt0
  clear hl hc hb ho hlt0
  have b0 : Hid (((w.alloc (.cells (byteCells zeros6) 23)).alloc (.cells (byteCells zeros6) 23)).heap[w.heap.size + 1]? = some (.cells (byteCells zeros6) 23 (0, 0))) := hid (heap_new (by simp))
  go_enter Try.func46, Try.ntmps46
  go_wp2_with (first | (refine wpList_build_to rfl 23 rfl built_six ?_) | (refine wpList_store_bytes rfl 23 _ _ rfl _ zeros6 zeros6 rfl rfl _ 6 b0.out (by kernel_rfl) rfl rfl ?_))
  go_loopw [4] (fun i wr => ∃ k : Nat, k ≤ 6 ∧ i = .int .i64 k ∧ Hid (Grown w wr) ∧ Hid (wr.heap[w.heap.size]? = some (.cells (byteCells zeros6) 23 (0, 0))) ∧ Hid (wr.heap[w.heap.size + 1]? = some (.cells (byteCells (fillTo 6 (fun b => (blurAt xs b : Int)) k)) 23 (0, 0)))) (fun i _ => 6 - (intOf i).toNat)
  case atStart => exact ⟨0, Nat.zero_le _, rfl, hid (Grown_setRow (((Grown.refl _).alloc _ _).alloc _ _) (by omega) _), hid (heap_row_kept (by omega) (heap_kept (heap_new rfl))), hid (by rw [fillTo_zero]; exact heap_row_set (heap_new (by simp)))⟩
  case round =>
    clear b0
    obtain ⟨k, hk, rfl, hg, h0, h1⟩ := hrel
    by_cases hlt : k < 6
    · obtain ⟨wo, hwo⟩ : ∃ wo : World, wo = wr := ⟨_, rfl⟩
      rw [← hwo] at hg h0 h1 ⊢
      clear hwo
      have lt1 := hid (lt_of_heap h1.out)
      have n2 := hid (heap_new (w := wo) (o := (.cells (kCells .i64 zeros6) 102)) rfl)
      have hgs := hid hg.out.size
      obtain ⟨z, hz⟩ : ∃ z, z = wo.heap.size := ⟨_, rfl⟩
      have HZ := hid hz
      clear hz
      have c2 := hid (heap_row_set (cs := kCells .i64 zeros6) n2.out)
      have d0 := hid (heap_row_kept (g := wo.heap.size) (cs := kCells .i64 zeros6) (by have := lt_of_heap h0.out; omega) (heap_kept (o := (.cells (kCells .i64 zeros6) 102)) h0.out))
      have d1 := hid (heap_row_kept (g := wo.heap.size) (cs := kCells .i64 zeros6) (by have := lt1.out; omega) (heap_kept (o := (.cells (kCells .i64 zeros6) 102)) h1.out))
      have gr := hid (Grown_setRow (hg.out.alloc (kCells .i64 zeros6) 102) hgs.out (kCells .i64 zeros6))
      have hk0 : (0 : Int) ≤ k := by omega
      have hk6 : (k : Int) < 6 := by omega
      go_wp2_with (first | (refine wpList_build_to rfl 102 rfl built_cnt ?_) | (refine wpList_store_cells rfl 102 _ _ rfl _ (kCells .i64 zeros6) (kCells .i64 zeros6) rfl rfl _ 6 n2.out (by kernel_rfl) (by rw [kCells_size]; rfl) (by rw [kCells_size]; rfl) (kCells_one _ _) ?_))
      rw [← HZ.out] at c2 d0 d1 gr ⊢
      clear n2
      go_loopw [6] (fun q wr => ∃ j : Nat, j ≤ 4 ∧ q = .int .i64 j ∧ Hid (Grown w wr) ∧ Hid (wr.heap[w.heap.size]? = some (.cells (byteCells zeros6) 23 (0, 0))) ∧ Hid (wr.heap[w.heap.size + 1]? = some (.cells (byteCells (fillTo 6 (fun b => (blurAt xs b : Int)) k)) 23 (0, 0))) ∧ Hid (wr.heap[z]? = some (.cells (kCells .i64 (blkC xs k j)) 102 (0, 0)))) (fun q _ => 4 - (intOf q).toNat)
      case atStart => exact ⟨0, Nat.zero_le _, rfl, gr, d0, d1, hid (by rw [blkC_zero]; exact c2.out)⟩
      case round =>
        clear gr c2 d0 d1 hg h0 h1
        obtain ⟨j, hj, rfl, gr, h0, h1, h2⟩ := hrel
        by_cases hjt : j < 4
        · have hbl := blkI_lt hlt hjt
          obtain ⟨v, hv, hv6⟩ := cell_nat OK.out B.out (blkI k j) (by rw [L.out]; exact hbl)
          have hcell := cell_grown gr.out (C.out (blkI k j) (by rw [L.out]; exact hbl))
          rw [hv] at hcell
          have hc2 := cell_ints h2.out (i := v) (by rw [blkC_length]; exact hv6)
          have hf2 : wr.frozen? ⟨z, v, none⟩ = false := frozen_of_row _ _ _ _ _ h2.out
          have HS := hid (blkC_hit hjt hv6 hv)
          obtain ⟨hy0, hy1⟩ := blkC_bd xs k j v
          clear hv
          generalize (blkC xs k j).getD v 0 = y at *
          have hj0 : (0 : Int) ≤ j := by omega
          have hv0 : (0 : Int) ≤ v := by omega
          have hvI : (v : Int) < 6 := by omega
          have hjj : ((k : Int) % 3 * 2 + (j : Int) % 2) + 6 * ((k : Int) / 3 * 2 + (j : Int) / 2) = (blkI k j : Nat) := by unfold blkI; omega
          have HJ := hid hjj
          clear hjj
          generalize blkI k j = p at *
          go_wp2_with fail
          have q0 : (0 : Int) ≤ (k : Int) % 3 * 2 + (j : Int) % 2 ∧ (k : Int) % 3 * 2 + (j : Int) % 2 < 6 := by omega
          have q1 : (0 : Int) ≤ (k : Int) / 3 * 2 + (j : Int) / 2 ∧ (k : Int) / 3 * 2 + (j : Int) / 2 < 4 := by omega
          have Q0 := hid q0
          have Q1 := hid q1
          have e1 : (k : Int).tmod 3 = (k : Int) % 3 := Int.tmod_eq_emod_of_nonneg hk0
          have e2 : (j : Int).tmod 2 = (j : Int) % 2 := Int.tmod_eq_emod_of_nonneg hj0
          have e3 : IntKind.i64.wrap ((k : Int) % 3 * 2) = (k : Int) % 3 * 2 := IntWalk.i64_in _ (by omega)
          have e4 : IntKind.i64.wrap ((k : Int) % 3 * 2 + (j : Int) % 2) = (k : Int) % 3 * 2 + (j : Int) % 2 := IntWalk.i64_in _ (by omega)
          have e5 : IntKind.i64.wrap ((k : Int) / 3) = (k : Int) / 3 := IntWalk.i64_in _ (by omega)
          have e6 : IntKind.i64.wrap ((j : Int) / 2) = (j : Int) / 2 := IntWalk.i64_in _ (by omega)
          have e7 : IntKind.i64.wrap ((k : Int) / 3 * 2) = (k : Int) / 3 * 2 := IntWalk.i64_in _ (by omega)
          have e8 : IntKind.i64.wrap ((k : Int) / 3 * 2 + (j : Int) / 2) = (k : Int) / 3 * 2 + (j : Int) / 2 := IntWalk.i64_in _ (by omega)
          have e9 : IntKind.i64.wrap (y + 1) = y + 1 := IntWalk.i64_in _ (by omega)
          clear q0 q1
          go_region_with (go_at_call 76; refine (l01Index_nat _ _ p HJ.out Q0.out Q1.out _).mono ?_; rintro e w' ⟨rfl, rfl⟩)
          all_goals
            clear e1 e2 e3 e4 e5 e6 e7 e8 e9
            go_wp2_with fail
            have hzw : w.heap.size ≤ z := by have := HZ.out; have := hgs.out; omega
            have hz1 : w.heap.size + 1 < z := by have := HZ.out; have := lt1.out; omega
            have HZW := hid hzw
            have HZ1 := hid hz1
            clear hzw hz1
            go_roundw
            case rel => exact ⟨j + 1, by omega, by go_num, hid (by first | exact gr.out.setCell (a := ⟨z, v, none⟩) HZW.out _ | exact (gr.out.setCell (a := ⟨z, v, none⟩) HZW.out _).drew | exact (gr.out.setCell (a := ⟨z, v, none⟩) HZW.out _).drewN _), hid (by first | exact heap_stored (a := ⟨z, v, none⟩) (by have := HZ1.out; dsimp only; omega) h0.out | exact heap_drawn (heap_stored (a := ⟨z, v, none⟩) (by have := HZ1.out; dsimp only; omega) h0.out)), hid (by first | exact heap_stored (a := ⟨z, v, none⟩) (by have := HZ1.out; dsimp only; omega) h1.out | exact heap_drawn (heap_stored (a := ⟨z, v, none⟩) (by have := HZ1.out; dsimp only; omega) h1.out)), hid (by rw [← HS.out]; first | exact heap_int_set h2.out | exact heap_drawn (heap_int_set h2.out))⟩
            case measure => simp [intOf] <;> omega
        · have hj4 : j = 4 := by omega
          have H2 : Hid (wr.heap[z]? = some (.cells (kCells .i64 (blkC xs k 4)) 102 (0, 0))) := by rw [hj4] at h2; exact h2
          clear h2 hj4
          go_wp2_with fail
          go_loopw [7, 8] (fun m c wr => ∃ j : Nat, 1 ≤ j ∧ j ≤ 6 ∧ c = .int .i64 j ∧ m = .int .i64 (bestOf (blkC xs k 4) j) ∧ Hid (Grown w wr) ∧ Hid (wr.heap[w.heap.size]? = some (.cells (byteCells zeros6) 23 (0, 0))) ∧ Hid (wr.heap[w.heap.size + 1]? = some (.cells (byteCells (fillTo 6 (fun b => (blurAt xs b : Int)) k)) 23 (0, 0))) ∧ Hid (wr.heap[z]? = some (.cells (kCells .i64 (blkC xs k 4)) 102 (0, 0)))) (fun _ c _ => 6 - (intOf c).toNat)
          case atStart => exact ⟨1, Nat.le_refl _, by omega, rfl, by rw [bestOf_one]; rfl, gr, h0, h1, H2⟩
          case round =>
            clear gr h0 h1 H2
            obtain ⟨c, hc1, hc6, rfl, rfl, gr, h0, h1, h2⟩ := hrel
            have hbl : bestOf (blkC xs k 4) c < 6 := by have := bestOf_lt (blkC xs k 4) c; omega
            by_cases hct : c < 6
            · have hcc := cell_ints h2.out (i := c) (by rw [blkC_length]; exact hct)
              have hcb := cell_ints h2.out (i := bestOf (blkC xs k 4) c) (by rw [blkC_length]; exact hbl)
              have hc0 : (0 : Int) ≤ c := by omega
              have hcI : (c : Int) < 6 := by omega
              by_cases hgt : (blkC xs k 4).getD (bestOf (blkC xs k 4) c) 0 < (blkC xs k 4).getD c 0
              · have HB := hid (bestOf_yes hgt)
                generalize (blkC xs k 4).getD (bestOf (blkC xs k 4) c) 0 = x at *
                generalize bestOf (blkC xs k 4) c = m at *
                generalize (blkC xs k 4).getD c 0 = y at *
                have hm0 : (0 : Int) ≤ m := by omega
                have hmI : (m : Int) < 6 := by omega
                go_wp2_with fail
                go_quiet (fail)
                go_wp2_with fail
                go_roundw
                case rel => exact ⟨c + 1, by omega, by omega, by go_num, by rw [HB.out], hid (gr.out.drewN _), h0, h1, h2⟩
                case measure => simp [intOf] <;> omega
              · have HB := hid (bestOf_no hgt)
                generalize (blkC xs k 4).getD (bestOf (blkC xs k 4) c) 0 = x at *
                generalize bestOf (blkC xs k 4) c = m at *
                generalize (blkC xs k 4).getD c 0 = y at *
                have hm0 : (0 : Int) ≤ m := by omega
                have hmI : (m : Int) < 6 := by omega
                go_wp2_with fail
                go_quiet (fail)
                go_wp2_with fail
                go_roundw
                case rel => exact ⟨c + 1, by omega, by omega, by go_num, by rw [HB.out], hid (gr.out.drewN _), h0, h1, h2⟩
                case measure => simp [intOf] <;> omega
            · have hce : c = 6 := by omega
              have hbb : bestOf (blkC xs k 4) c = blurAt xs k := by rw [hce]; rfl
              rw [hbb] at hbl ⊢
              have hlf := fillTo_length 6 (fun b => (blurAt xs b : Int)) k hk
              have hcf : wr.cell? ⟨w.heap.size + 1, k, none⟩ = some (.int .u8 ((fillTo 6 (fun b => (blurAt xs b : Int)) k).getD k 0)) := cell_ints (k := .u8) h1.out (by rw [hlf]; exact hlt)
              have hff : wr.frozen? ⟨w.heap.size + 1, k, none⟩ = false := frozen_of_row _ _ _ _ _ h1.out
              have HSET := hid (fillTo_set 6 (fun b => (blurAt xs b : Int)) k hlt)
              clear hbb hce hlf
              generalize (fillTo 6 (fun b => (blurAt xs b : Int)) k).getD k 0 = y at *
              generalize hq : blurAt xs k = q at *
              have HQ := hid hq
              clear hq
              have hq0 : (0 : Int) ≤ q := by omega
              have hqI : (q : Int) ≤ 255 := by omega
              go_wp2_with fail
              go_roundw
              case rel => exact ⟨k + 1, by omega, by go_num, hid (gr.out.setCell (by dsimp only; omega) _), hid (heap_stored (by dsimp only; omega) h0.out), hid (by rw [← HSET.out]; have := heap_byte_set (i := k) (x := (q : Int)) h1.out; rw [← HQ.out] at this ⊢; exact this)⟩
              case measure => simp [intOf] <;> omega
    · have hk6 : k = 6 := by omega
      have H1 : Hid (wr.heap[w.heap.size + 1]? = some (.cells (byteCells (blurL xs)) 23 (0, 0))) := by rw [hk6, fillTo_all] at h1; exact h1
      have HL := hid (blurL_length xs)
      clear hk6 h1
      go_wp2_with (first | (refine wpList_load_bytes rfl 23 _ rfl _ rfl _ (blurL xs) _ 6 H1.out Try.underlying23 (by kernel_rfl) HL.out ?_) | (refine wpList_store_bytes rfl 23 _ _ rfl _ (blurL xs) zeros6 rfl rfl _ 6 h0.out (by kernel_rfl) HL.out rfl ?_))
      refine bodyPost_ret (results_bytes1 (by rfl) _ _ _ _ _ _ _ rfl (heap_row_set h0.out) Try.underlying23 (by kernel_rfl) HL.out) rfl ⟨rfl, ?_⟩
      exact Grown_setRow hg.out (by omega) _
end Go.Proofs.Ytnghcchkiodalaa
