/- Flags that are mirrored and turned: the functions. -/
import Derived.Test.YtnghcchkiodalaaValid
import Derived.Test.YtnghcchkiodalaaToFlag
import Derived.Test.YtnghcchkiodalaaCells
import Derived.Test.YtnghcchkiodalaaPainted
namespace Go.Proofs.Ytnghcchkiodalaa
open Go.RowKit
def mirI (i : Nat) : Nat := 5 - i % 6 + 6 * (i / 6)
def mirL (xs : List Int) : List Int := (List.range 24).map fun i => xs.getD (mirI i) 0
def turnL (xs : List Int) : List Int := (List.range 24).map fun i => xs.getD (23 - i) 0
theorem mirL_length (xs : List Int) : (mirL xs).length = 24 := by simp [mirL]
theorem turnL_length (xs : List Int) : (turnL xs).length = 24 := by simp [turnL]
/-- What a function of a view hands back. -/
def viewF (V : List Int → List Int) (xs : List Int) : List Int := if okB xs then V xs else zeros24
def viewC (xs : List Int) : Int := if okB xs then 0 else 1
theorem viewF_length (V : List Int → List Int) (hV : ∀ xs, (V xs).length = 24) (xs : List Int) : (viewF V xs).length = 24 := by
  unfold viewF; split <;> simp [hV, zeros24]

theorem l01Index_nat (x y : Int) (j : Nat) (hj : x + 6 * y = j) (hx : 0 ≤ x ∧ x < 6) (hy : 0 ≤ y ∧ y < 4) (w : World) :
    Calls Try.prog 76 #[.int .i64 x, .int .i64 y] w fun e w' => e = .returned (.int .i64 j) ∧ w = w' :=
  (l01Index_any x y hx hy w).mono fun _ _ ⟨h1, h2⟩ => ⟨by rw [h1, hj], h2⟩

set_option maxHeartbeats 1000000 in
theorem l01Mirror_any (b off : Nat) (xs : List Int) (hl : xs.length = 24) (hb : Bytes xs) (w : World) (hc : BytesAt w b off xs) (hlt0 : b < w.heap.size) :
    Calls Try.prog 51 #[.pointer (some ⟨b, off, none⟩)] w fun e w' => e = .returned (.agg (byteCells (mirL xs))) ∧ Grown w w' := by
  have L := hid hl
  have C := hid hc
  clear hl hc hb
  have b0 : Hid (((w.alloc (.cells (byteCells zeros24) 26)).alloc (.cells (byteCells zeros24) 26)).heap[w.heap.size + 1]? = some (.cells (byteCells zeros24) 26 (0, 0))) := hid (heap_new (by simp))
  go_enter Try.func51, Try.ntmps51
  go_wp2_with (first | (refine wpList_build_to rfl 26 rfl built_flag ?_) | (refine wpList_store_bytes rfl 26 _ _ rfl _ zeros24 zeros24 rfl rfl _ 24 b0.out (by kernel_rfl) rfl rfl ?_))
  go_loopw [4] (fun i wr => ∃ k : Nat, k ≤ 24 ∧ i = .int .i64 k ∧ Hid (Grown w wr) ∧ Hid (wr.heap[w.heap.size]? = some (.cells (byteCells zeros24) 26 (0, 0))) ∧ Hid (wr.heap[w.heap.size + 1]? = some (.cells (byteCells (fillTo 24 (fun i => xs.getD (mirI i) 0) k)) 26 (0, 0)))) (fun i _ => 24 - (intOf i).toNat)
  case atStart => exact ⟨0, Nat.zero_le _, rfl, hid (Grown_setRow (((Grown.refl _).alloc _ _).alloc _ _) (by omega) _), hid (heap_row_kept (by omega) (heap_kept (heap_new rfl))), hid (by rw [fillTo_zero]; exact heap_row_set (heap_new (by simp)))⟩
  case round =>
    obtain ⟨k, hk, rfl, hg, h0, h1⟩ := hrel
    by_cases hlt : k < 24
    · have hj : mirI k < 24 := by unfold mirI; omega
      have hcell : wr.cell? ⟨b, off + (mirI k), none⟩ = some (.int .u8 (xs.getD (mirI k) 0)) := by
        have h := C.out (mirI k) (by rw [L.out]; exact hj)
        exact cell_grown hg.out h
      have hc1 : wr.cell? ⟨w.heap.size + 1, k, none⟩ = some (.int .u8 ((fillTo 24 (fun i => xs.getD (mirI i) 0) k).getD k 0)) := by
        rw [cell_of_row _ _ _ _ _ _ h1.out]; exact byteCells_get _ k (by rw [fillTo_length _ _ _ hk]; exact hlt)
      have hf1 : wr.frozen? ⟨w.heap.size + 1, k, none⟩ = false := frozen_of_row _ _ _ _ _ h1.out
      have hset := fillTo_set 24 (fun i => xs.getD (mirI i) 0) k hlt
      have HSET := hid hset
      clear hset
      generalize (fillTo 24 (fun i => xs.getD (mirI i) 0) k).getD k 0 = y at *
      have hk0 : (0 : Int) ≤ k := by omega
      have hjj : 5 - (k : Int) % 6 + 6 * ((k : Int) / 6) = (mirI k : Nat) := by unfold mirI; omega
      have HJ := hid hjj
      clear hjj
      generalize hjm : mirI k = j at *
      clear hjm
      generalize hv : xs.getD j 0 = v at *
      have HV := hid hv
      clear hv
      go_wp2_with fail
      have q0 : (0 : Int) ≤ 5 - (k : Int) % 6 ∧ 5 - (k : Int) % 6 < 6 := by omega
      have q1 : (0 : Int) ≤ (k : Int) / 6 ∧ (k : Int) / 6 < 4 := by omega
      have Q0 := hid q0
      have Q1 := hid q1
      have e1 : (k : Int).tmod 6 = (k : Int) % 6 := Int.tmod_eq_emod_of_nonneg hk0
      have e2 : IntKind.i64.wrap (5 - (k : Int) % 6) = 5 - (k : Int) % 6 := IntWalk.i64_in _ (by omega)
      have e3 : IntKind.i64.wrap ((k : Int) / 6) = (k : Int) / 6 := IntWalk.i64_in _ (by omega)
      clear q0 q1
      go_region_with (go_at_call 76; refine (l01Index_nat _ _ j HJ.out Q0.out Q1.out _).mono ?_; rintro e w' ⟨rfl, rfl⟩)
      clear e1 e2 e3
      go_wp2_with fail
      go_roundw
      case rel => first | exact ⟨k + 1, by omega, by go_num, hid (hg.out.setCell (by dsimp only; omega) _), hid (heap_stored (by dsimp only; omega) h0.out), hid (by rw [← HSET.out]; have := heap_byte_set (i := k) (x := v) h1.out; rw [← HV.out] at this ⊢; exact this)⟩ | exact ⟨k + 1, by omega, by go_num, hid ((hg.out.setCell (a := ⟨w.heap.size + 1, k, none⟩) (by dsimp only; omega) _).drew), hid (heap_drawn (heap_stored (a := ⟨w.heap.size + 1, k, none⟩) (by dsimp only; omega) h0.out)), hid (heap_drawn (by rw [← HSET.out]; have := heap_byte_set (i := k) (x := v) h1.out; rw [← HV.out] at this ⊢; exact this))⟩
      case measure => simp [intOf]; omega
    · have hk24 : k = 24 := by omega
      have H1 : Hid (wr.heap[w.heap.size + 1]? = some (.cells (byteCells (mirL xs)) 26 (0, 0))) := by
        rw [hk24, fillTo_all] at h1; exact h1
      have HL := hid (mirL_length xs)
      clear hk24 h1
      go_wp2_with (first | (refine wpList_load_bytes rfl 26 _ rfl _ rfl _ (mirL xs) _ 24 H1.out Try.underlying26 (by kernel_rfl) HL.out ?_) | (refine wpList_store_bytes rfl 26 _ _ rfl _ (mirL xs) zeros24 rfl rfl _ 24 h0.out (by kernel_rfl) HL.out rfl ?_))
      refine bodyPost_ret (results_bytes1 (by rfl) _ _ _ _ _ _ _ rfl (heap_row_set h0.out) Try.underlying26 (by kernel_rfl) HL.out) rfl ⟨rfl, ?_⟩
      exact Grown_setRow hg.out (by omega) _

set_option maxHeartbeats 1000000 in
theorem l01Turn_any (b off : Nat) (xs : List Int) (hl : xs.length = 24) (hb : Bytes xs) (w : World) (hc : BytesAt w b off xs) (hlt0 : b < w.heap.size) :
    Calls Try.prog 54 #[.pointer (some ⟨b, off, none⟩)] w fun e w' => e = .returned (.agg (byteCells (turnL xs))) ∧ Grown w w' := by
  have L := hid hl
  have C := hid hc
  clear hl hc hb
  have b0 : Hid (((w.alloc (.cells (byteCells zeros24) 26)).alloc (.cells (byteCells zeros24) 26)).heap[w.heap.size + 1]? = some (.cells (byteCells zeros24) 26 (0, 0))) := hid (heap_new (by simp))
  go_enter Try.func54, Try.ntmps54
  go_wp2_with (first | (refine wpList_build_to rfl 26 rfl built_flag ?_) | (refine wpList_store_bytes rfl 26 _ _ rfl _ zeros24 zeros24 rfl rfl _ 24 b0.out (by kernel_rfl) rfl rfl ?_))
  go_loopw [4] (fun i wr => ∃ k : Nat, k ≤ 24 ∧ i = .int .i64 k ∧ Hid (Grown w wr) ∧ Hid (wr.heap[w.heap.size]? = some (.cells (byteCells zeros24) 26 (0, 0))) ∧ Hid (wr.heap[w.heap.size + 1]? = some (.cells (byteCells (fillTo 24 (fun i => xs.getD (23 - i) 0) k)) 26 (0, 0)))) (fun i _ => 24 - (intOf i).toNat)
  case atStart => exact ⟨0, Nat.zero_le _, rfl, hid (Grown_setRow (((Grown.refl _).alloc _ _).alloc _ _) (by omega) _), hid (heap_row_kept (by omega) (heap_kept (heap_new rfl))), hid (by rw [fillTo_zero]; exact heap_row_set (heap_new (by simp)))⟩
  case round =>
    obtain ⟨k, hk, rfl, hg, h0, h1⟩ := hrel
    by_cases hlt : k < 24
    · have hj : 23 - k < 24 := by omega
      have hcell : wr.cell? ⟨b, off + (23 - k), none⟩ = some (.int .u8 (xs.getD (23 - k) 0)) := by
        have h := C.out (23 - k) (by rw [L.out]; exact hj)
        exact cell_grown hg.out h
      have hc1 : wr.cell? ⟨w.heap.size + 1, k, none⟩ = some (.int .u8 ((fillTo 24 (fun i => xs.getD (23 - i) 0) k).getD k 0)) := by
        rw [cell_of_row _ _ _ _ _ _ h1.out]; exact byteCells_get _ k (by rw [fillTo_length _ _ _ hk]; exact hlt)
      have hf1 : wr.frozen? ⟨w.heap.size + 1, k, none⟩ = false := frozen_of_row _ _ _ _ _ h1.out
      have hset := fillTo_set 24 (fun i => xs.getD (23 - i) 0) k hlt
      have HSET := hid hset
      clear hset
      generalize (fillTo 24 (fun i => xs.getD (23 - i) 0) k).getD k 0 = y at *
      have hk0 : (0 : Int) ≤ k := by omega
      generalize hv : xs.getD (23 - k) 0 = v at *
      have HV := hid hv
      clear hv
      go_wp2_with fail
      go_roundw
      case rel => exact ⟨k + 1, by omega, by go_num, hid (hg.out.setCell (by dsimp only; omega) _), hid (heap_stored (by dsimp only; omega) h0.out), hid (by rw [← HSET.out]; have := heap_byte_set (i := k) (x := v) h1.out; rw [← HV.out] at this ⊢; exact this)⟩
      case measure => simp [intOf]; omega
    · have hk24 : k = 24 := by omega
      have H1 : Hid (wr.heap[w.heap.size + 1]? = some (.cells (byteCells (turnL xs)) 26 (0, 0))) := by
        rw [hk24, fillTo_all] at h1; exact h1
      have HL := hid (turnL_length xs)
      clear hk24 h1
      go_wp2_with (first | (refine wpList_load_bytes rfl 26 _ rfl _ rfl _ (turnL xs) _ 24 H1.out Try.underlying26 (by kernel_rfl) HL.out ?_) | (refine wpList_store_bytes rfl 26 _ _ rfl _ (turnL xs) zeros24 rfl rfl _ 24 h0.out (by kernel_rfl) HL.out rfl ?_))
      refine bodyPost_ret (results_bytes1 (by rfl) _ _ _ _ _ _ _ rfl (heap_row_set h0.out) Try.underlying26 (by kernel_rfl) HL.out) rfl ⟨rfl, ?_⟩
      exact Grown_setRow hg.out (by omega) _
end Go.Proofs.Ytnghcchkiodalaa
