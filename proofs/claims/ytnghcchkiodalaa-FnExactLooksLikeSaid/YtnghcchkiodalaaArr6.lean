/- Arrays of six. -/
import Derived.Test.YtnghcchkiodalaaColours
import Derived.Test.YtnghcchkiodalaaInts
namespace Go.Proofs.Ytnghcchkiodalaa
open Go.RowKit
def zeros6 : List Int := List.replicate 6 0
theorem eqByteA6_same (xs : List Int) (hl : xs.length = 6) (w : World) :
    Calls Try.prog 16 #[.agg (byteCells xs), .agg (byteCells xs)] w fun e w' => e = .returned (.bool true) ∧ Grown w w' := by
  have HL := hid hl
  clear hl
  go_enter Try.func16, Try.ntmps16
  go_wp2_with fail
  go_loopw [5] (fun i wr => ∃ k : Nat, k ≤ 6 ∧ i = .int .i64 k ∧ Hid (Grown w wr) ∧ Hid (wr.heap[w.heap.size]? = some (.cells (byteCells xs) 23 (0, 0))) ∧ Hid (wr.heap[w.heap.size + 1]? = some (.cells (byteCells xs) 23 (0, 0)))) (fun i _ => 6 - (intOf i).toNat)
  case atStart => exact ⟨0, Nat.zero_le _, rfl, hid (((Grown.refl _).alloc _ _).alloc _ _), hid (heap_kept (heap_new rfl)), hid (heap_new (by simp))⟩
  case round =>
    obtain ⟨k, hk, rfl, hg, h0, h1⟩ := hrel
    by_cases hlt : k < 6
    · have hc0 : wr.cell? ⟨w.heap.size, k, none⟩ = some (.int .u8 (xs.getD k 0)) := cell_ints (k := .u8) h0.out (by rw [HL.out]; exact hlt)
      have hc1 : wr.cell? ⟨w.heap.size + 1, k, none⟩ = some (.int .u8 (xs.getD k 0)) := cell_ints (k := .u8) h1.out (by rw [HL.out]; exact hlt)
      generalize xs.getD k 0 = x at *
      have hb0 : (0 : Int) ≤ k := by omega
      have hb1 : (k : Int) < 6 := by omega
      go_wp2_with fail
      go_quiet (fail)
      go_wp2_with fail
      go_roundw
      case rel => exact ⟨k + 1, by omega, by go_num, hid (hg.out.drewN _), h0, h1⟩
      case measure => simp [intOf]; omega
    · go_wp2_with fail
      go_ret
      exact ⟨rfl, hg.out⟩
end Go.Proofs.Ytnghcchkiodalaa
