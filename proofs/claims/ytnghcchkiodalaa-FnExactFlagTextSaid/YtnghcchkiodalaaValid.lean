/- ValidFlag, and what it needs: contracts. -/
import Derived.Test.YtnghcchkiodalaaColours
namespace Go.Proofs.Ytnghcchkiodalaa
open Go.RowKit

theorem l01Ok_any (b off : Nat) (xs : List Int) (hl : xs.length = 24) (w : World) (hc : BytesAt w b off xs) :
    Calls Try.prog 45 #[.pointer (some ⟨b, off, none⟩)] w fun e w' => e = .returned (.bool (okB xs)) ∧ w = w' := by
  have HC := hid hc
  clear hc
  have HL := hid hl
  clear hl
  go_enter Try.func45, Try.ntmps45
  go_wp2
  go_loop [3] (fun i => ∃ k : Nat, k ≤ 24 ∧ i = .int .i64 k ∧ Hid (okB (xs.take k) = true)) (fun i => 24 - (intOf i).toNat)
  case atStart => exact ⟨0, Nat.zero_le _, rfl, hid rfl⟩
  case round =>
    obtain ⟨k, hk, rfl, hok⟩ := hrel
    by_cases hlt : k < 24
    · have hcell := HC.out k (by rw [HL.out]; exact hlt)
      have hs := okB_take_succ xs k (by rw [HL.out]; exact hlt)
      have hf := okB_false_of xs k (by rw [HL.out]; exact hlt)
      have HS := hid hs
      have HF := hid hf
      clear hs hf
      by_cases hx : xs.getD k 0 ≤ 5
      · generalize xs.getD k 0 = x at *
        go_wp2
        go_round
        case rel => exact ⟨k + 1, by omega, by go_num, hid (by rw [HS.out, hok.out]; simpa using hx)⟩
        case measure => simp [intOf]; omega
      · have hx' : 5 < xs.getD k 0 := by omega
        have HF' := hid (HF.out hx')
        clear HF HS
        generalize xs.getD k 0 = x at *
        go_wp2
        go_ret
        exact ⟨ret_bool HF'.out.symm, rfl⟩
    · have hk24 : k = 24 := by omega
      have hv : okB xs = true := by have := hok.out; rwa [List.take_of_length_le (by rw [HL.out]; omega)] at this
      have HV := hid hv
      clear hv
      go_wp2
      go_ret
      exact ⟨ret_bool HV.out.symm, rfl⟩

/-- A new block of bytes. -/
theorem new_block (w : World) (xs : List Int) (t : TypeId) : (w.alloc (.cells (byteCells xs) t)).heap[w.heap.size]? = some (.cells (byteCells xs) t (0, 0)) := heap_alloc_new _ _

theorem impl_ValidFlag_any (xs : List Int) (hl : xs.length = 24) (hb : Bytes xs) (w : World) :
    Calls Try.prog 47 #[.agg (byteCells xs)] w fun e w' => e = .returned (.bool (okB xs)) ∧ Grown w w' := by
  have HL := hid hl
  have HB := hid hb
  clear hb
  go_enter Try.func47, Try.ntmps47
  go_wp2_with (first | (refine wpList_load_bytes rfl 26 _ rfl _ rfl _ xs _ 24 (new_block _ _ _) Try.underlying26 (by kernel_rfl) hl ?_) | fail)
  clear hl
  go_loop [6] (fun i => ∃ k : Nat, k ≤ 24 ∧ i = .int .i64 k ∧ Hid (okB (xs.take k) = true)) (fun i => 24 - (intOf i).toNat)
  case atStart => exact ⟨0, Nat.zero_le _, rfl, hid rfl⟩
  case round =>
    obtain ⟨k, hk, rfl, hok⟩ := hrel
    by_cases hlt : k < 24
    · have hs := okB_take_succ xs k (by rw [HL.out]; exact hlt)
      have hf := okB_false_of xs k (by rw [HL.out]; exact hlt)
      have HS := hid hs
      have HF := hid hf
      clear hs hf
      have hi := run_index_bytes (P := Try.prog) Try.underlying26 Try.underlying5 (by kernel_rfl) xs k hlt HL.out
      obtain ⟨hx0, hx1⟩ := HB.out.get k
      by_cases hx : xs.getD k 0 ≤ 5
      · generalize xs.getD k 0 = x at *
        have hd : colourB x = true := by simp [colourB]; omega
        go_wp2_with (go_at_call 77; refine (isColour_any _ _).mono ?_; rintro e w' ⟨rfl, rfl⟩)
        go_round
        case rel => exact ⟨k + 1, by omega, by go_num, hid (by rw [HS.out, hok.out]; simpa using hx)⟩
        case measure => simp [intOf]; omega
      · have hx' : 5 < xs.getD k 0 := by omega
        have HF' := hid (HF.out hx')
        clear HF HS
        generalize xs.getD k 0 = x at *
        have hd : colourB x = false := by simp [colourB]; omega
        go_wp2_with (go_at_call 77; refine (isColour_any _ _).mono ?_; rintro e w' ⟨rfl, rfl⟩)
        go_ret
        exact ⟨ret_bool HF'.out.symm, (Grown.refl _).alloc _ _⟩
    · have hk24 : k = 24 := by omega
      have hv : okB xs = true := by have := hok.out; rwa [List.take_of_length_le (by rw [HL.out]; omega)] at this
      have HV := hid hv
      clear hv
      go_wp2_with fail
      go_ret
      exact ⟨ret_bool HV.out.symm, (Grown.refl _).alloc _ _⟩
end Go.Proofs.Ytnghcchkiodalaa
