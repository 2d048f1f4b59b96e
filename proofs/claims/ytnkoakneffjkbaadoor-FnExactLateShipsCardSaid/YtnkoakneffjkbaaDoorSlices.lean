/- Slices of integers: copies, comparisons, marks. -/
import Derived.Test.YtnkoakneffjkbaaDoorOwn
namespace Go.Proofs.YtnkoakneffjkbaaDoor
set_option linter.unusedVariables false
open Go.RowKit

set_option maxRecDepth 100000 in
/-- Two slices with the same numbers. -/
theorem eqInt64S_own (a b : Option Addr) (ca cb : Nat) (xs : List Int) (hn : xs.length ≤ 1048576) (w : World) (ha : SliceOf .i64 w a xs) (hb : SliceOf .i64 w b xs) :
    Calls Tryd.prog 25 #[.slice a xs.length ca, .slice b xs.length cb] w fun e w' => e = .returned (.bool true) ∧ Gr w w' := by
  have HA := hid ha
  have HB := hid hb
  clear ha hb
  obtain ⟨n, hxn⟩ : ∃ n, n = xs.length := ⟨_, rfl⟩
  rw [← hxn] at hn ⊢
  have HN := hid hxn
  clear hxn
  go_enter Tryd.func25, Tryd.ntmps25
  go_wp2_with fail
  go_loopw [5] (fun i wr => ∃ k : Nat, k ≤ n ∧ i = .int .i64 k ∧ Hid (Gr w wr)) (fun i _ => n - (intOf i).toNat)
  case atStart => exact ⟨0, Nat.zero_le _, rfl, hid (Gr.refl _)⟩
  case round =>
    obtain ⟨k, hk, rfl, hg⟩ := hrel
    by_cases hlt : k < n
    · obtain ⟨b0, o0, rfl, h0⟩ := HA.out k (by rw [← HN.out]; exact hlt)
      obtain ⟨b1, o1, rfl, h1⟩ := HB.out k (by rw [← HN.out]; exact hlt)
      have hc0 := hg.out.cell h0
      have hc1 := hg.out.cell h1
      clear h0 h1
      generalize xs.getD k 0 = v at *
      have hb0 : (0 : Int) ≤ k := by omega
      have hb1 : (k : Int) < n := by omega
      go_wp2_with fail
      go_quiet (fail)
      go_wp2_with fail
      go_roundw
      case rel => exact ⟨k + 1, by omega, by go_num, hid (hg.out.drewN _)⟩
      case measure => simp [intOf]; omega
    · go_wp2_with fail
      go_ret
      exact ⟨rfl, hg.out⟩
set_option maxRecDepth 100000 in
theorem markInt64S_own (a : Option Addr) (n cap lo hi k0 : Nat) (xs : List Int) (hn : xs.length ≤ 1048576) (hk0 : k0 ≤ 10) (w : World) (ho : Own .i64 2 w lo hi (.slice a n cap) xs) :
    Calls Tryd.prog 27 #[.slice a n cap, .int .i64 k0] w fun e w' => e = .returned (.int .i64 (k0 + n : Nat)) ∧ Own .i64 2 w' lo hi (.slice a n cap) (markL .i64 k0 n) ∧ w.grownBy w' (Value.slice a n cap).ownBlock := by
  have hl := ho.len
  rw [← hl] at hn
  have HO := hid ho
  have HL := hid hl
  clear ho hl
  go_enter Tryd.func27, Tryd.ntmps27
  go_wp2_with fail
  go_loopw [1, 5] (fun q i wr => ∃ k : Nat, k ≤ n ∧ i = .int .i64 k ∧ q = .int .i64 (k0 + k : Nat) ∧ Hid (Own .i64 2 wr lo hi (.slice a n cap) (markTo .i64 k0 xs k)) ∧ Hid (w.grownBy wr (Value.slice a n cap).ownBlock)) (fun _ i _ => n - (intOf i).toNat)
  case atStart => exact ⟨0, Nat.zero_le _, rfl, rfl, hid (by rw [markTo_zero]; exact HO.out), hid ⟨rfl, rfl, rfl, Nat.le_refl _, fun _ _ _ => rfl⟩⟩
  case round =>
    obtain ⟨k, hk, rfl, rfl, hw, hg⟩ := hrel
    by_cases hlt : k < n
    · have hlx : k < xs.length := by rw [← HL.out]; exact hlt
      have hlm : k < (markTo .i64 k0 xs k).length := by rw [markTo_length (by omega)]; exact hlx
      obtain ⟨g, rfl, hgb, hc, hf⟩ := hw.out.at_ hlm
      have hp := hw.out.put k (IntKind.wrap .i64 ((k0 + k : Nat) : Int))
      rw [markTo_set hlx] at hp
      have HP := hid hp
      clear hp hlx hlm hgb
      generalize (markTo .i64 k0 xs k).getD k 0 = y at *
      have ew : IntKind.wrap .i64 ((k0 + k : Nat) : Int) = (k0 : Int) + (k : Int) := by rw [IntWalk.i64_in _ (by omega)]; push_cast; rfl
      rw [ew] at HP
      clear ew
      go_wp2_with fail
      go_roundw
      case rel => exact ⟨k + 1, by omega, by go_num, by go_num, hid HP.out.1, hid (hg.out.trans HP.out.2)⟩
      case measure => simp [intOf]; omega
    · have hkn : k = n := by omega
      have H0 : Hid (Own .i64 2 wr lo hi (.slice a n cap) (markL .i64 k0 n)) := by
        rw [hkn, HL.out, markTo_all, ← HL.out] at hw; exact hw
      have HK := hid hkn
      clear hw hkn
      go_wp2_with fail
      go_ret
      exact ⟨ret_int (by rw [HK.out]), H0.out, hg.out⟩
theorem markInt64S_one (a : Option Addr) (n cap lo hi : Nat) (xs : List Int) (hn : xs.length ≤ 1048576) (w : World) (ho : Own .i64 2 w lo hi (.slice a n cap) xs) :
    Calls Tryd.prog 27 #[.slice a n cap, .int .i64 1] w fun e w' => e = .returned (.int .i64 (1 + (n : Int))) ∧ Own .i64 2 w' lo hi (.slice a n cap) (markL .i64 1 n) ∧ w.grownBy w' (Value.slice a n cap).ownBlock := by
  have h := markInt64S_own a n cap lo hi 1 xs hn (by omega) w ho
  push_cast at h
  exact h
set_option maxRecDepth 100000 in
theorem heldInt64S_own (a : Option Addr) (n cap k0 : Nat) (hn : n ≤ 1048576) (hk0 : k0 ≤ 10) (w : World) (hs : SliceOf .i64 w a (markL .i64 k0 n)) :
    Calls Tryd.prog 28 #[.slice a n cap, .int .i64 k0] w fun e w' => e = .returned (.int .i64 (k0 + n : Nat)) ∧ Gr w w' := by
  have HS := hid hs
  clear hs
  go_enter Tryd.func28, Tryd.ntmps28
  go_wp2_with fail
  go_loopw [1, 5] (fun q i wr => ∃ k : Nat, k ≤ n ∧ i = .int .i64 k ∧ q = .int .i64 (k0 + k : Nat) ∧ Hid (Gr w wr)) (fun _ i _ => n - (intOf i).toNat)
  case atStart => exact ⟨0, Nat.zero_le _, rfl, rfl, hid (Gr.refl _)⟩
  case round =>
    obtain ⟨k, hk, rfl, rfl, hg⟩ := hrel
    by_cases hlt : k < n
    · obtain ⟨b0, o0, rfl, h0⟩ := HS.out k (by rw [markL_length]; exact hlt)
      have hc0 := hg.out.cell h0
      rw [markL_get hlt] at hc0
      clear h0
      have ew : IntKind.wrap .i64 ((k0 + k : Nat) : Int) = (k0 : Int) + (k : Int) := by rw [IntWalk.i64_in _ (by omega)]; push_cast; rfl
      rw [ew] at hc0
      clear ew
      go_wp2_with fail
      go_roundw
      case rel => exact ⟨k + 1, by omega, by go_num, by go_num, hg⟩
      case measure => simp [intOf]; omega
    · have hkn : k = n := by omega
      have HK := hid hkn
      clear hkn
      go_wp2_with fail
      go_ret
      exact ⟨ret_int (by rw [HK.out]), hg.out⟩
theorem heldInt64S_one (a : Option Addr) (n cap : Nat) (hn : n ≤ 1048576) (w : World) (hs : SliceOf .i64 w a (markL .i64 1 n)) :
    Calls Tryd.prog 28 #[.slice a n cap, .int .i64 1] w fun e w' => e = .returned (.int .i64 (1 + (n : Int))) ∧ Gr w w' := by
  have h := heldInt64S_own a n cap 1 hn (by omega) w hs
  push_cast at h
  exact h
end Go.Proofs.YtnkoakneffjkbaaDoor
