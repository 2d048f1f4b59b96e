/- painted: the flag whose cells have the colours that a function tells. -/
import Derived.Test.YtnghcchkiodalaaColours
namespace Go.Proofs.Ytnghcchkiodalaa
open Go.RowKit

theorem painted_any (F : FuncId) (C : Array Value) (col : Nat → Int) (w : World)
    (hcf : ∀ args w, (callFunc F args).run Try.prog w = .ok (.enter F args) w)
    (hF : ∀ i : Nat, i < 24 → ∀ wr, Grown w wr → Calls Try.prog F (#[.int .i64 ((i : Int) % 6), .int .i64 ((i : Int) / 6)] ++ C) wr fun e w' => e = .returned (.int .u8 (col i)) ∧ Grown wr w') :
    Calls Try.prog 80 #[.func (.func F) #[] C] w fun e w' => e = .returned (.agg (byteCells ((List.range 24).map col))) ∧ Grown w w' := by
  have HF := hid hF
  clear hF
  go_enter Try.func80, Try.ntmps80
  go_wp2_with fail
  go_loopw [5] (fun i wr => ∃ k : Nat, k ≤ 24 ∧ i = .int .i64 k ∧ Hid (Grown w wr) ∧ Hid (wr.heap[w.heap.size]? = some (.cells (byteCells zeros24) 26 (0, 0))) ∧ Hid (wr.heap[w.heap.size + 1]? = some (.cells (byteCells (fillTo 24 col k)) 26 (0, 0)))) (fun i _ => 24 - (intOf i).toNat)
  case atStart => exact ⟨0, Nat.zero_le _, rfl, hid (((Grown.refl _).alloc _ _).alloc _ _), hid (heap_kept (heap_new rfl)), hid (by rw [fillTo_zero]; exact heap_new (by simp))⟩
  case round =>
    obtain ⟨k, hk, rfl, hg, h0, h1⟩ := hrel
    by_cases hlt : k < 24
    · go_wp2_with fail
      refine (HF.out k hlt _ hg.out).mono ?_
      rintro e w1 ⟨rfl, g1⟩
      have H0 := hid (heap_grown g1 h0.out)
      have H1 := hid (heap_grown g1 h1.out)
      have G1 := hid (Grown_trans hg.out g1)
      have hc1 : w1.cell? ⟨w.heap.size + 1, k, none⟩ = some (.int .u8 ((fillTo 24 col k).getD k 0)) := by
        rw [cell_of_row _ _ _ _ _ _ H1.out]; exact byteCells_get _ k (by rw [fillTo_length _ _ _ hk]; exact hlt)
      have hf1 : w1.frozen? ⟨w.heap.size + 1, k, none⟩ = false := frozen_of_row _ _ _ _ _ H1.out
      have HSET := hid (fillTo_set 24 col k hlt)
      clear g1 h0 h1 hg
      generalize (fillTo 24 col k).getD k 0 = y at *
      generalize hx : col k = x at *
      clear hx
      go_wp2_with fail
      go_roundw
      case rel => exact ⟨k + 1, by omega, by go_num, hid (G1.out.setCell (by dsimp only; omega) _), hid (heap_stored (by dsimp only; omega) H0.out), hid (by rw [← HSET.out]; exact heap_byte_set H1.out)⟩
      case measure => simp [intOf]; omega
    · obtain rfl : k = 24 := by omega
      have hl : (fillTo 24 col 24).length = 24 := fillTo_length _ _ _ hk
      go_wp2_with (first | (refine wpList_load_bytes rfl 26 _ rfl _ rfl _ (fillTo 24 col 24) _ 24 h1.out Try.underlying26 (by kernel_rfl) hl ?_) | (refine wpList_store_bytes rfl 26 _ _ rfl _ (fillTo 24 col 24) zeros24 rfl rfl _ 24 h0.out (by kernel_rfl) hl (by decide) ?_))
      refine bodyPost_ret (results_bytes1 (by rfl) _ _ _ _ _ _ _ rfl (heap_row_set h0.out) Try.underlying26 (by kernel_rfl) hl) rfl ⟨?_, ?_⟩
      · rw [fillTo_all]
      · exact Grown_setRow hg.out (by omega) _
end Go.Proofs.Ytnghcchkiodalaa
