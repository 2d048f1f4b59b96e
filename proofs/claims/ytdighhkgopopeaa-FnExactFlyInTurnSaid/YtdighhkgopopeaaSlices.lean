/- Slices of integers: copies, comparisons, marks. -/
import Derived.Test.YtdighhkgopopeaaOwn
namespace Go.Proofs.Ytdighhkgopopeaa
set_option linter.unusedVariables false
open Go.RowKit

set_option maxRecDepth 100000 in
/-- Two slices with the same numbers. -/
theorem eqHoist_own (a b : Option Addr) (ca cb : Nat) (xs : List Int) (hn : xs.length ≤ 1048576) (w : World) (ha : SliceOf .i8 w a xs) (hb : SliceOf .i8 w b xs) :
    Calls Try.prog 9 #[.slice a xs.length ca, .slice b xs.length cb] w fun e w' => e = .returned (.bool true) ∧ Gr w w' := by
  have HA := hid ha
  have HB := hid hb
  clear ha hb
  obtain ⟨n, hxn⟩ : ∃ n, n = xs.length := ⟨_, rfl⟩
  rw [← hxn] at hn ⊢
  have HN := hid hxn
  clear hxn
  go_enter Try.func9, Try.ntmps9
  go_wp2_with fail
  go_loopw [5] (fun i wr => ∃ k : Nat, k ≤ n ∧ i = .int .i64 k ∧ Hid (Gr w wr)) (fun i _ => n - (intOf i).toNat)
  case atStart => exact ⟨0, Nat.zero_le _, rfl, hid (Gr.refl _)⟩
  case round =>
    obtain ⟨k, hk, rfl, hg⟩ := hrel
    by_cases hlt : k < n
    · obtain ⟨b0, o0, rfl, h0⟩ := HA.out k (by rw [← HN.out]; exact hlt)
      obtain ⟨b1, o1, rfl, h1⟩ := HB.out k (by rw [← HN.out]; exact hlt)
      have hc0 := hg.out.cell h0
      have hc1 := hg.out.cell h1
      clear h0 h1
      generalize xs.getD k 0 = v at *
      have hb0 : (0 : Int) ≤ k := by omega
      have hb1 : (k : Int) < n := by omega
      go_wp2_with fail
      go_quiet (fail)
      go_wp2_with fail
      go_roundw
      case rel => exact ⟨k + 1, by omega, by go_num, hid (hg.out.drewN _)⟩
      case measure => simp [intOf]; omega
    · go_wp2_with fail
      go_ret
      exact ⟨rfl, hg.out⟩
set_option maxRecDepth 100000 in
theorem markHoist_own (a : Option Addr) (n cap lo hi k0 : Nat) (xs : List Int) (hn : xs.length ≤ 1048576) (hk0 : k0 ≤ 10) (w : World) (ho : Own .i8 59 w lo hi (.slice a n cap) xs) :
    Calls Try.prog 12 #[.slice a n cap, .int .i64 k0] w fun e w' => e = .returned (.int .i64 (k0 + n : Nat)) ∧ Own .i8 59 w' lo hi (.slice a n cap) (markL .i8 k0 n) ∧ w.grownBy w' (Value.slice a n cap).ownBlock := by
  have hl := ho.len
  rw [← hl] at hn
  have HO := hid ho
  have HL := hid hl
  clear ho hl
  go_enter Try.func12, Try.ntmps12
  go_wp2_with fail
  go_loopw [1, 5] (fun q i wr => ∃ k : Nat, k ≤ n ∧ i = .int .i64 k ∧ q = .int .i64 (k0 + k : Nat) ∧ Hid (Own .i8 59 wr lo hi (.slice a n cap) (markTo .i8 k0 xs k)) ∧ Hid (w.grownBy wr (Value.slice a n cap).ownBlock)) (fun _ i _ => n - (intOf i).toNat)
  case atStart => exact ⟨0, Nat.zero_le _, rfl, rfl, hid (by rw [markTo_zero]; exact HO.out), hid ⟨rfl, rfl, rfl, Nat.le_refl _, fun _ _ _ => rfl⟩⟩
  case round =>
    obtain ⟨k, hk, rfl, rfl, hw, hg⟩ := hrel
    by_cases hlt : k < n
    · have hlx : k < xs.length := by rw [← HL.out]; exact hlt
      have hlm : k < (markTo .i8 k0 xs k).length := by rw [markTo_length (by omega)]; exact hlx
      obtain ⟨g, rfl, hgb, hc, hf⟩ := hw.out.at_ hlm
      have hp := hw.out.put k (IntKind.wrap .i8 ((k0 + k : Nat) : Int))
      rw [markTo_set hlx] at hp
      have HP := hid hp
      clear hp hlx hlm hgb
      generalize (markTo .i8 k0 xs k).getD k 0 = y at *
      generalize hv : IntKind.wrap .i8 ((k0 + k : Nat) : Int) = v at *
      have hv' := hv
      push_cast at hv hv'
      go_wp2_with fail
      go_roundw
      case rel => exact ⟨k + 1, by omega, by go_num, by go_num, hid HP.out.1, hid (hg.out.trans HP.out.2)⟩
      case measure => simp [intOf]; omega
    · have hkn : k = n := by omega
      have H0 : Hid (Own .i8 59 wr lo hi (.slice a n cap) (markL .i8 k0 n)) := by
        rw [hkn, HL.out, markTo_all, ← HL.out] at hw; exact hw
      have HK := hid hkn
      clear hw hkn
      go_wp2_with fail
      go_ret
      exact ⟨ret_int (by rw [HK.out]), H0.out, hg.out⟩
theorem markHoist_one (a : Option Addr) (n cap lo hi : Nat) (xs : List Int) (hn : xs.length ≤ 1048576) (w : World) (ho : Own .i8 59 w lo hi (.slice a n cap) xs) :
    Calls Try.prog 12 #[.slice a n cap, .int .i64 1] w fun e w' => e = .returned (.int .i64 (1 + (n : Int))) ∧ Own .i8 59 w' lo hi (.slice a n cap) (markL .i8 1 n) ∧ w.grownBy w' (Value.slice a n cap).ownBlock := by
  have h := markHoist_own a n cap lo hi 1 xs hn (by omega) w ho
  push_cast at h
  exact h
set_option maxRecDepth 100000 in
theorem heldHoist_own (a : Option Addr) (n cap k0 : Nat) (hn : n ≤ 1048576) (hk0 : k0 ≤ 10) (w : World) (hs : SliceOf .i8 w a (markL .i8 k0 n)) :
    Calls Try.prog 13 #[.slice a n cap, .int .i64 k0] w fun e w' => e = .returned (.int .i64 (k0 + n : Nat)) ∧ Gr w w' := by
  have HS := hid hs
  clear hs
  go_enter Try.func13, Try.ntmps13
  go_wp2_with fail
  go_loopw [1, 5] (fun q i wr => ∃ k : Nat, k ≤ n ∧ i = .int .i64 k ∧ q = .int .i64 (k0 + k : Nat) ∧ Hid (Gr w wr)) (fun _ i _ => n - (intOf i).toNat)
  case atStart => exact ⟨0, Nat.zero_le _, rfl, rfl, hid (Gr.refl _)⟩
  case round =>
    obtain ⟨k, hk, rfl, rfl, hg⟩ := hrel
    by_cases hlt : k < n
    · obtain ⟨b0, o0, rfl, h0⟩ := HS.out k (by rw [markL_length]; exact hlt)
      have hc0 := hg.out.cell h0
      rw [markL_get hlt] at hc0
      clear h0
      generalize hv : IntKind.wrap .i8 ((k0 + k : Nat) : Int) = v at *
      push_cast at hv
      go_wp2_with fail
      go_roundw
      case rel => exact ⟨k + 1, by omega, by go_num, by go_num, hg⟩
      case measure => simp [intOf]; omega
    · have hkn : k = n := by omega
      have HK := hid hkn
      clear hkn
      go_wp2_with fail
      go_ret
      exact ⟨ret_int (by rw [HK.out]), hg.out⟩
theorem heldHoist_one (a : Option Addr) (n cap : Nat) (hn : n ≤ 1048576) (w : World) (hs : SliceOf .i8 w a (markL .i8 1 n)) :
    Calls Try.prog 13 #[.slice a n cap, .int .i64 1] w fun e w' => e = .returned (.int .i64 (1 + (n : Int))) ∧ Gr w w' := by
  have h := heldHoist_own a n cap 1 hn (by omega) w hs
  push_cast at h
  exact h
set_option maxRecDepth 100000 in
theorem toMeaning_own (a0 : Option Addr) (cap : Nat) (xs : List Int) (hn : xs.length ≤ 1048576) (w : World) (hs : SliceOf .i8 w a0 xs) :
    Calls Try.prog 7 #[.slice a0 xs.length cap] w fun e w' => e = .returned (.slice (some ⟨w.heap.size, 0, none⟩) xs.length xs.length) ∧ w'.heap[w.heap.size]? = some (.cells (kCells .i8 xs) 59 (0, 0)) ∧ Gr w w' := by
  have hmk := run_make_ints (P := Try.prog) (t := 33) (e := 59) (k := .i8) (bytes := 1) Try.underlying33 (by kernel_rfl) xs.length (by omega) (by omega)
  have HS := hid hs
  clear hs
  obtain ⟨n, hxn⟩ : ∃ n, n = xs.length := ⟨_, rfl⟩
  rw [← hxn] at hmk hn ⊢
  have HN := hid hxn
  clear hxn
  go_enter Try.func7, Try.ntmps7
  go_wp2_with fail
  clear hmk
  go_loopw [4] (fun i wr => ∃ k : Nat, k ≤ n ∧ i = .int .i64 k ∧ Hid (Gr w wr) ∧ Hid (wr.heap[w.heap.size]? = some (.cells (kCells .i8 (fillTo n (fun i => xs.getD i 0) k)) 59 (0, 0)))) (fun i _ => n - (intOf i).toNat)
  case atStart => exact ⟨0, Nat.zero_le _, rfl, hid ((Gr.refl _).alloc _), hid (by rw [fillTo_zero]; exact heap_new rfl)⟩
  case round =>
    obtain ⟨k, hk, rfl, hg, h0⟩ := hrel
    by_cases hlt : k < n
    · obtain ⟨b, off, rfl, hc⟩ := HS.out k (by rw [← HN.out]; exact hlt)
      have hc0 := hg.out.cell hc
      have hl := fillTo_length n (fun i => xs.getD i 0) k hk
      have hc1 := cell_ints h0.out (i := k) (by omega)
      have hf1 : wr.frozen? ⟨w.heap.size, k, none⟩ = false := frozen_of_row _ _ _ _ _ h0.out
      have HSET := hid (fillTo_set n (fun i => xs.getD i 0) k hlt)
      clear hc hl
      generalize (fillTo n (fun i => xs.getD i 0) k).getD k 0 = y at *
      generalize hv : xs.getD k 0 = v at *
      have HV := hid hv
      clear hv
      go_wp2_with fail
      go_roundw
      case rel => exact ⟨k + 1, by omega, by go_num, hid (hg.out.setCell (by dsimp only; omega) _), hid (by rw [← HSET.out]; have := heap_int_set (i := k) (x := v) h0.out; rw [← HV.out] at this ⊢; exact this)⟩
      case measure => simp [intOf]; omega
    · have hkn : k = n := by omega
      have H0 : Hid (wr.heap[w.heap.size]? = some (.cells (kCells .i8 xs) 59 (0, 0))) := by
        rw [hkn, fillTo_all, HN.out, map_getD_range] at h0; exact h0
      clear h0 hkn
      go_wp2_with fail
      go_ret
      exact ⟨rfl, H0.out, hg.out⟩
set_option maxRecDepth 100000 in
/-- Two slices with the same numbers. -/
theorem eqMeaning_own (a b : Option Addr) (ca cb : Nat) (xs : List Int) (hn : xs.length ≤ 1048576) (w : World) (ha : SliceOf .i8 w a xs) (hb : SliceOf .i8 w b xs) :
    Calls Try.prog 10 #[.slice a xs.length ca, .slice b xs.length cb] w fun e w' => e = .returned (.bool true) ∧ Gr w w' := by
  have HA := hid ha
  have HB := hid hb
  clear ha hb
  obtain ⟨n, hxn⟩ : ∃ n, n = xs.length := ⟨_, rfl⟩
  rw [← hxn] at hn ⊢
  have HN := hid hxn
  clear hxn
  go_enter Try.func10, Try.ntmps10
  go_wp2_with fail
  go_loopw [5] (fun i wr => ∃ k : Nat, k ≤ n ∧ i = .int .i64 k ∧ Hid (Gr w wr)) (fun i _ => n - (intOf i).toNat)
  case atStart => exact ⟨0, Nat.zero_le _, rfl, hid (Gr.refl _)⟩
  case round =>
    obtain ⟨k, hk, rfl, hg⟩ := hrel
    by_cases hlt : k < n
    · obtain ⟨b0, o0, rfl, h0⟩ := HA.out k (by rw [← HN.out]; exact hlt)
      obtain ⟨b1, o1, rfl, h1⟩ := HB.out k (by rw [← HN.out]; exact hlt)
      have hc0 := hg.out.cell h0
      have hc1 := hg.out.cell h1
      clear h0 h1
      generalize xs.getD k 0 = v at *
      have hb0 : (0 : Int) ≤ k := by omega
      have hb1 : (k : Int) < n := by omega
      go_wp2_with fail
      go_quiet (fail)
      go_wp2_with fail
      go_roundw
      case rel => exact ⟨k + 1, by omega, by go_num, hid (hg.out.drewN _)⟩
      case measure => simp [intOf]; omega
    · go_wp2_with fail
      go_ret
      exact ⟨rfl, hg.out⟩
set_option maxRecDepth 100000 in
theorem markMeaning_own (a : Option Addr) (n cap lo hi k0 : Nat) (xs : List Int) (hn : xs.length ≤ 1048576) (hk0 : k0 ≤ 10) (w : World) (ho : Own .i8 59 w lo hi (.slice a n cap) xs) :
    Calls Try.prog 11 #[.slice a n cap, .int .i64 k0] w fun e w' => e = .returned (.int .i64 (k0 + n : Nat)) ∧ Own .i8 59 w' lo hi (.slice a n cap) (markL .i8 k0 n) ∧ w.grownBy w' (Value.slice a n cap).ownBlock := by
  have hl := ho.len
  rw [← hl] at hn
  have HO := hid ho
  have HL := hid hl
  clear ho hl
  go_enter Try.func11, Try.ntmps11
  go_wp2_with fail
  go_loopw [1, 5] (fun q i wr => ∃ k : Nat, k ≤ n ∧ i = .int .i64 k ∧ q = .int .i64 (k0 + k : Nat) ∧ Hid (Own .i8 59 wr lo hi (.slice a n cap) (markTo .i8 k0 xs k)) ∧ Hid (w.grownBy wr (Value.slice a n cap).ownBlock)) (fun _ i _ => n - (intOf i).toNat)
  case atStart => exact ⟨0, Nat.zero_le _, rfl, rfl, hid (by rw [markTo_zero]; exact HO.out), hid ⟨rfl, rfl, rfl, Nat.le_refl _, fun _ _ _ => rfl⟩⟩
  case round =>
    obtain ⟨k, hk, rfl, rfl, hw, hg⟩ := hrel
    by_cases hlt : k < n
    · have hlx : k < xs.length := by rw [← HL.out]; exact hlt
      have hlm : k < (markTo .i8 k0 xs k).length := by rw [markTo_length (by omega)]; exact hlx
      obtain ⟨g, rfl, hgb, hc, hf⟩ := hw.out.at_ hlm
      have hp := hw.out.put k (IntKind.wrap .i8 ((k0 + k : Nat) : Int))
      rw [markTo_set hlx] at hp
      have HP := hid hp
      clear hp hlx hlm hgb
      generalize (markTo .i8 k0 xs k).getD k 0 = y at *
      generalize hv : IntKind.wrap .i8 ((k0 + k : Nat) : Int) = v at *
      have hv' := hv
      push_cast at hv hv'
      go_wp2_with fail
      go_roundw
      case rel => exact ⟨k + 1, by omega, by go_num, by go_num, hid HP.out.1, hid (hg.out.trans HP.out.2)⟩
      case measure => simp [intOf]; omega
    · have hkn : k = n := by omega
      have H0 : Hid (Own .i8 59 wr lo hi (.slice a n cap) (markL .i8 k0 n)) := by
        rw [hkn, HL.out, markTo_all, ← HL.out] at hw; exact hw
      have HK := hid hkn
      clear hw hkn
      go_wp2_with fail
      go_ret
      exact ⟨ret_int (by rw [HK.out]), H0.out, hg.out⟩
theorem markMeaning_one (a : Option Addr) (n cap lo hi : Nat) (xs : List Int) (hn : xs.length ≤ 1048576) (w : World) (ho : Own .i8 59 w lo hi (.slice a n cap) xs) :
    Calls Try.prog 11 #[.slice a n cap, .int .i64 1] w fun e w' => e = .returned (.int .i64 (1 + (n : Int))) ∧ Own .i8 59 w' lo hi (.slice a n cap) (markL .i8 1 n) ∧ w.grownBy w' (Value.slice a n cap).ownBlock := by
  have h := markMeaning_own a n cap lo hi 1 xs hn (by omega) w ho
  push_cast at h
  exact h
set_option maxRecDepth 100000 in
/-- Two slices with the same numbers. -/
theorem eqInt64S_own (a b : Option Addr) (ca cb : Nat) (xs : List Int) (hn : xs.length ≤ 1048576) (w : World) (ha : SliceOf .i64 w a xs) (hb : SliceOf .i64 w b xs) :
    Calls Try.prog 18 #[.slice a xs.length ca, .slice b xs.length cb] w fun e w' => e = .returned (.bool true) ∧ Gr w w' := by
  have HA := hid ha
  have HB := hid hb
  clear ha hb
  obtain ⟨n, hxn⟩ : ∃ n, n = xs.length := ⟨_, rfl⟩
  rw [← hxn] at hn ⊢
  have HN := hid hxn
  clear hxn
  go_enter Try.func18, Try.ntmps18
  go_wp2_with fail
  go_loopw [5] (fun i wr => ∃ k : Nat, k ≤ n ∧ i = .int .i64 k ∧ Hid (Gr w wr)) (fun i _ => n - (intOf i).toNat)
  case atStart => exact ⟨0, Nat.zero_le _, rfl, hid (Gr.refl _)⟩
  case round =>
    obtain ⟨k, hk, rfl, hg⟩ := hrel
    by_cases hlt : k < n
    · obtain ⟨b0, o0, rfl, h0⟩ := HA.out k (by rw [← HN.out]; exact hlt)
      obtain ⟨b1, o1, rfl, h1⟩ := HB.out k (by rw [← HN.out]; exact hlt)
      have hc0 := hg.out.cell h0
      have hc1 := hg.out.cell h1
      clear h0 h1
      generalize xs.getD k 0 = v at *
      have hb0 : (0 : Int) ≤ k := by omega
      have hb1 : (k : Int) < n := by omega
      go_wp2_with fail
      go_quiet (fail)
      go_wp2_with fail
      go_roundw
      case rel => exact ⟨k + 1, by omega, by go_num, hid (hg.out.drewN _)⟩
      case measure => simp [intOf]; omega
    · go_wp2_with fail
      go_ret
      exact ⟨rfl, hg.out⟩
set_option maxRecDepth 100000 in
theorem markInt64S_own (a : Option Addr) (n cap lo hi k0 : Nat) (xs : List Int) (hn : xs.length ≤ 1048576) (hk0 : k0 ≤ 10) (w : World) (ho : Own .i64 2 w lo hi (.slice a n cap) xs) :
    Calls Try.prog 21 #[.slice a n cap, .int .i64 k0] w fun e w' => e = .returned (.int .i64 (k0 + n : Nat)) ∧ Own .i64 2 w' lo hi (.slice a n cap) (markL .i64 k0 n) ∧ w.grownBy w' (Value.slice a n cap).ownBlock := by
  have hl := ho.len
  rw [← hl] at hn
  have HO := hid ho
  have HL := hid hl
  clear ho hl
  go_enter Try.func21, Try.ntmps21
  go_wp2_with fail
  go_loopw [1, 5] (fun q i wr => ∃ k : Nat, k ≤ n ∧ i = .int .i64 k ∧ q = .int .i64 (k0 + k : Nat) ∧ Hid (Own .i64 2 wr lo hi (.slice a n cap) (markTo .i64 k0 xs k)) ∧ Hid (w.grownBy wr (Value.slice a n cap).ownBlock)) (fun _ i _ => n - (intOf i).toNat)
  case atStart => exact ⟨0, Nat.zero_le _, rfl, rfl, hid (by rw [markTo_zero]; exact HO.out), hid ⟨rfl, rfl, rfl, Nat.le_refl _, fun _ _ _ => rfl⟩⟩
  case round =>
    obtain ⟨k, hk, rfl, rfl, hw, hg⟩ := hrel
    by_cases hlt : k < n
    · have hlx : k < xs.length := by rw [← HL.out]; exact hlt
      have hlm : k < (markTo .i64 k0 xs k).length := by rw [markTo_length (by omega)]; exact hlx
      obtain ⟨g, rfl, hgb, hc, hf⟩ := hw.out.at_ hlm
      have hp := hw.out.put k (IntKind.wrap .i64 ((k0 + k : Nat) : Int))
      rw [markTo_set hlx] at hp
      have HP := hid hp
      clear hp hlx hlm hgb
      generalize (markTo .i64 k0 xs k).getD k 0 = y at *
      have ew : IntKind.wrap .i64 ((k0 + k : Nat) : Int) = (k0 : Int) + (k : Int) := by rw [IntWalk.i64_in _ (by omega)]; push_cast; rfl
      rw [ew] at HP
      clear ew
      go_wp2_with fail
      go_roundw
      case rel => exact ⟨k + 1, by omega, by go_num, by go_num, hid HP.out.1, hid (hg.out.trans HP.out.2)⟩
      case measure => simp [intOf]; omega
    · have hkn : k = n := by omega
      have H0 : Hid (Own .i64 2 wr lo hi (.slice a n cap) (markL .i64 k0 n)) := by
        rw [hkn, HL.out, markTo_all, ← HL.out] at hw; exact hw
      have HK := hid hkn
      clear hw hkn
      go_wp2_with fail
      go_ret
      exact ⟨ret_int (by rw [HK.out]), H0.out, hg.out⟩
theorem markInt64S_one (a : Option Addr) (n cap lo hi : Nat) (xs : List Int) (hn : xs.length ≤ 1048576) (w : World) (ho : Own .i64 2 w lo hi (.slice a n cap) xs) :
    Calls Try.prog 21 #[.slice a n cap, .int .i64 1] w fun e w' => e = .returned (.int .i64 (1 + (n : Int))) ∧ Own .i64 2 w' lo hi (.slice a n cap) (markL .i64 1 n) ∧ w.grownBy w' (Value.slice a n cap).ownBlock := by
  have h := markInt64S_own a n cap lo hi 1 xs hn (by omega) w ho
  push_cast at h
  exact h
set_option maxRecDepth 100000 in
theorem heldInt64S_own (a : Option Addr) (n cap k0 : Nat) (hn : n ≤ 1048576) (hk0 : k0 ≤ 10) (w : World) (hs : SliceOf .i64 w a (markL .i64 k0 n)) :
    Calls Try.prog 22 #[.slice a n cap, .int .i64 k0] w fun e w' => e = .returned (.int .i64 (k0 + n : Nat)) ∧ Gr w w' := by
  have HS := hid hs
  clear hs
  go_enter Try.func22, Try.ntmps22
  go_wp2_with fail
  go_loopw [1, 5] (fun q i wr => ∃ k : Nat, k ≤ n ∧ i = .int .i64 k ∧ q = .int .i64 (k0 + k : Nat) ∧ Hid (Gr w wr)) (fun _ i _ => n - (intOf i).toNat)
  case atStart => exact ⟨0, Nat.zero_le _, rfl, rfl, hid (Gr.refl _)⟩
  case round =>
    obtain ⟨k, hk, rfl, rfl, hg⟩ := hrel
    by_cases hlt : k < n
    · obtain ⟨b0, o0, rfl, h0⟩ := HS.out k (by rw [markL_length]; exact hlt)
      have hc0 := hg.out.cell h0
      rw [markL_get hlt] at hc0
      clear h0
      have ew : IntKind.wrap .i64 ((k0 + k : Nat) : Int) = (k0 : Int) + (k : Int) := by rw [IntWalk.i64_in _ (by omega)]; push_cast; rfl
      rw [ew] at hc0
      clear ew
      go_wp2_with fail
      go_roundw
      case rel => exact ⟨k + 1, by omega, by go_num, by go_num, hg⟩
      case measure => simp [intOf]; omega
    · have hkn : k = n := by omega
      have HK := hid hkn
      clear hkn
      go_wp2_with fail
      go_ret
      exact ⟨ret_int (by rw [HK.out]), hg.out⟩
theorem heldInt64S_one (a : Option Addr) (n cap : Nat) (hn : n ≤ 1048576) (w : World) (hs : SliceOf .i64 w a (markL .i64 1 n)) :
    Calls Try.prog 22 #[.slice a n cap, .int .i64 1] w fun e w' => e = .returned (.int .i64 (1 + (n : Int))) ∧ Gr w w' := by
  have h := heldInt64S_own a n cap 1 hn (by omega) w hs
  push_cast at h
  exact h
end Go.Proofs.Ytdighhkgopopeaa
