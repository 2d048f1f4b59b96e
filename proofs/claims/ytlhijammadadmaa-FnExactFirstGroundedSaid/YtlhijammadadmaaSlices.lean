/- Slices of integers: copies, comparisons, marks. -/
import Derived.Test.YtlhijammadadmaaOwn
namespace Go.Proofs.Ytlhijammadadmaa
set_option linter.unusedVariables false
open Go.RowKit

set_option maxRecDepth 100000 in
theorem toHoist_own (a0 : Option Addr) (cap : Nat) (xs : List Int) (hn : xs.length ≤ 1048576) (w : World) (hs : SliceOf .i8 w a0 xs) :
    Calls Try.prog 21 #[.slice a0 xs.length cap] w fun e w' => e = .returned (.slice (some ⟨w.heap.size, 0, none⟩) xs.length xs.length) ∧ w'.heap[w.heap.size]? = some (.cells (kCells .i8 xs) 71 (0, 0)) ∧ Gr w w' := by
  have hmk := run_make_ints (P := Try.prog) (t := 49) (e := 71) (k := .i8) (bytes := 1) Try.underlying49 (by kernel_rfl) xs.length (by omega) (by omega)
  have HS := hid hs
  clear hs
  obtain ⟨n, hxn⟩ : ∃ n, n = xs.length := ⟨_, rfl⟩
  rw [← hxn] at hmk hn ⊢
  have HN := hid hxn
  clear hxn
  go_enter Try.func21, Try.ntmps21
  go_wp2_with fail
  clear hmk
  go_loopw [4] (fun i wr => ∃ k : Nat, k ≤ n ∧ i = .int .i64 k ∧ Hid (Gr w wr) ∧ Hid (wr.heap[w.heap.size]? = some (.cells (kCells .i8 (fillTo n (fun i => xs.getD i 0) k)) 71 (0, 0)))) (fun i _ => n - (intOf i).toNat)
  case atStart => exact ⟨0, Nat.zero_le _, rfl, hid ((Gr.refl _).alloc _), hid (by rw [fillTo_zero]; exact heap_new rfl)⟩
  case round =>
    obtain ⟨k, hk, rfl, hg, h0⟩ := hrel
    by_cases hlt : k < n
    · obtain ⟨b, off, rfl, hc⟩ := HS.out k (by rw [← HN.out]; exact hlt)
      have hc0 := hg.out.cell hc
      have hl := fillTo_length n (fun i => xs.getD i 0) k hk
      have hc1 := cell_ints h0.out (i := k) (by omega)
      have hf1 : wr.frozen? ⟨w.heap.size, k, none⟩ = false := frozen_of_row _ _ _ _ _ h0.out
      have HSET := hid (fillTo_set n (fun i => xs.getD i 0) k hlt)
      clear hc hl
      generalize (fillTo n (fun i => xs.getD i 0) k).getD k 0 = y at *
      generalize hv : xs.getD k 0 = v at *
      have HV := hid hv
      clear hv
      go_wp2_with fail
      go_roundw
      case rel => exact ⟨k + 1, by omega, by go_num, hid (hg.out.setCell (by dsimp only; omega) _), hid (by rw [← HSET.out]; have := heap_int_set (i := k) (x := v) h0.out; rw [← HV.out] at this ⊢; exact this)⟩
      case measure => simp [intOf]; omega
    · have hkn : k = n := by omega
      have H0 : Hid (wr.heap[w.heap.size]? = some (.cells (kCells .i8 xs) 71 (0, 0))) := by
        rw [hkn, fillTo_all, HN.out, map_getD_range] at h0; exact h0
      clear h0 hkn
      go_wp2_with fail
      go_ret
      exact ⟨rfl, H0.out, hg.out⟩
set_option maxRecDepth 100000 in
/-- Two slices with the same numbers. -/
theorem eqHoist_own (a b : Option Addr) (ca cb : Nat) (xs : List Int) (hn : xs.length ≤ 1048576) (w : World) (ha : SliceOf .i8 w a xs) (hb : SliceOf .i8 w b xs) :
    Calls Try.prog 28 #[.slice a xs.length ca, .slice b xs.length cb] w fun e w' => e = .returned (.bool true) ∧ Gr w w' := by
  have HA := hid ha
  have HB := hid hb
  clear ha hb
  obtain ⟨n, hxn⟩ : ∃ n, n = xs.length := ⟨_, rfl⟩
  rw [← hxn] at hn ⊢
  have HN := hid hxn
  clear hxn
  go_enter Try.func28, Try.ntmps28
  go_wp2_with fail
  go_loopw [5] (fun i wr => ∃ k : Nat, k ≤ n ∧ i = .int .i64 k ∧ Hid (Gr w wr)) (fun i _ => n - (intOf i).toNat)
  case atStart => exact ⟨0, Nat.zero_le _, rfl, hid (Gr.refl _)⟩
  case round =>
    obtain ⟨k, hk, rfl, hg⟩ := hrel
    by_cases hlt : k < n
    · obtain ⟨b0, o0, rfl, h0⟩ := HA.out k (by rw [← HN.out]; exact hlt)
      obtain ⟨b1, o1, rfl, h1⟩ := HB.out k (by rw [← HN.out]; exact hlt)
      have hc0 := hg.out.cell h0
      have hc1 := hg.out.cell h1
      clear h0 h1
      generalize xs.getD k 0 = v at *
      have hb0 : (0 : Int) ≤ k := by omega
      have hb1 : (k : Int) < n := by omega
      go_wp2_with fail
      go_quiet (fail)
      go_wp2_with fail
      go_roundw
      case rel => exact ⟨k + 1, by omega, by go_num, hid (hg.out.drewN _)⟩
      case measure => simp [intOf]; omega
    · go_wp2_with fail
      go_ret
      exact ⟨rfl, hg.out⟩
end Go.Proofs.Ytlhijammadadmaa
