/- Hoists of the program: the four checks, ValidHoist. -/
import Derived.Test.YtdighhkgopopeaaHoistV
namespace Go.Proofs.Ytdighhkgopopeaa
set_option linter.unusedVariables false
open Go.RowKit
set_option maxRecDepth 100000 in
theorem hasLength_any (a : Option Addr) (n cap : Nat) (hm : n ≤ 1048576) (w : World) :
    Calls Try.prog 76 #[.slice a n cap] w fun e w' => e = .returned (.bool (decide (1 ≤ n) && decide (n ≤ 8))) ∧ w = w' := by
  by_cases h1 : 1 ≤ n
  · go_enter Try.func76, Try.ntmps76
    go_wp2
    go_ret
    exact ⟨ret_bool (by simp [h1] <;> omega), rfl⟩
  · go_enter Try.func76, Try.ntmps76
    go_wp2
    go_ret
    exact ⟨ret_bool (by simp), rfl⟩
set_option maxRecDepth 100000 in
set_option maxHeartbeats 2000000 in
theorem hasNumbers_any (a : Option Addr) (n cap : Nat) (xs : List Int) (hn : n = xs.length) (hm : n ≤ 1048576) (hf : Fits .i8 xs) (w : World) (hs : SliceOf .i8 w a xs) :
    Calls Try.prog 77 #[.slice a n cap] w fun e w' => e = .returned (.bool (numsB xs)) ∧ w = w' := by
  have S := hid hs
  have HN := hid hn
  have HF := hid hf
  clear hs hn hf
  go_enter Try.func77, Try.ntmps77
  go_wp2
  go_loop [7] (fun i => ∃ k : Nat, k ≤ n ∧ i = .int .i64 k ∧ Hid (allTo (fun i => numI (xs.getD i 0)) k = true)) (fun i => n - (intOf i).toNat)
  case atStart => exact ⟨0, Nat.zero_le _, rfl, hid rfl⟩
  case round =>
    obtain ⟨k, hk, rfl, hok⟩ := hrel
    by_cases hlt : k < n
    · obtain ⟨b, off, rfl, hc⟩ := S.out k (by rw [← HN.out]; exact hlt)
      obtain ⟨h0, h1⟩ := HF.out.get8 k
      have HY := hid (fun (h : numI (xs.getD k 0) = true) => allTo_step (p := fun i => numI (xs.getD i 0)) hok.out h)
      have HZ := hid (fun (h : numI (xs.getD k 0) = false) => allTo_no (p := fun i => numI (xs.getD i 0)) (k := xs.length) (by rw [← HN.out]; exact hlt) h)
      generalize xs.getD k 0 = x at *
      cases hb : brkI x
      · have hx : (x == -10) = false := by have := brkI_no hb; simpa using this
        have hx' : (x != -10) = true := by have := brkI_no hb; simpa using this
        cases hs : subI x
        · cases hkd : kindI x
          · have HZ' := hid (HZ.out (by unfold numI; rw [hb, hs, hkd]; rfl))
            clear HY HZ hb
            go_wp2_with (first | (go_at_call 46; refine (isSub_any _ h0 h1 _).mono ?_; rintro e w' ⟨rfl, rfl⟩) | (go_at_call 81; refine (isKind_any _ h0 h1 _).mono ?_; rintro e w' ⟨rfl, rfl⟩))
            go_ret
            exact ⟨ret_bool HZ'.out.symm, rfl⟩
          · have HY' := hid (HY.out (by unfold numI; rw [hb, hs, hkd]; rfl))
            clear HY HZ hb
            go_wp2_with (first | (go_at_call 46; refine (isSub_any _ h0 h1 _).mono ?_; rintro e w' ⟨rfl, rfl⟩) | (go_at_call 81; refine (isKind_any _ h0 h1 _).mono ?_; rintro e w' ⟨rfl, rfl⟩))
            go_round
            case rel => exact ⟨k + 1, by omega, by go_num, HY'⟩
            case measure => simp [intOf] <;> omega
        · have HY' := hid (HY.out (by unfold numI; rw [hb, hs]; rfl))
          clear HY HZ hb
          go_wp2_with (first | (go_at_call 46; refine (isSub_any _ h0 h1 _).mono ?_; rintro e w' ⟨rfl, rfl⟩) | (go_at_call 81; refine (isKind_any _ h0 h1 _).mono ?_; rintro e w' ⟨rfl, rfl⟩))
          go_round
          case rel => exact ⟨k + 1, by omega, by go_num, HY'⟩
          case measure => simp [intOf] <;> omega
      · have hx : (x == -10) = true := by have := brkI_iff.1 hb; simpa using this
        have hx' : (x != -10) = false := by have := brkI_iff.1 hb; simpa using this
        have HY' := hid (HY.out (by unfold numI; rw [hb]; rfl))
        clear HY HZ hb
        go_wp2
        go_round
        case rel => exact ⟨k + 1, by omega, by go_num, HY'⟩
        case measure => simp [intOf] <;> omega
    · have hkn : k = n := by omega
      have hv : numsB xs = true := by unfold numsB; rw [← HN.out, ← hkn]; exact hok.out
      have HV := hid hv
      clear hv
      go_wp2
      go_ret
      exact ⟨ret_bool HV.out.symm, rfl⟩

set_option maxRecDepth 100000 in
set_option maxHeartbeats 2000000 in
theorem hasGroups_any (a : Option Addr) (n cap : Nat) (xs : List Int) (hn : n = xs.length) (hm : n ≤ 1048576) (hcap : n ≤ cap) (w : World) (hs : SliceOf .i8 w a xs) :
    Calls Try.prog 65 #[.slice a n cap] w fun e w' => e = .returned (.bool (grpsB xs)) ∧ w = w' := by
  have S := hid hs
  have HN := hid hn
  clear hs hn
  go_enter Try.func65, Try.ntmps65
  go_wp2
  go_loop [7] (fun i => ∃ k : Nat, k ≤ n + 1 ∧ i = .int .i64 k ∧ Hid (allTo (grpAt xs) k = true)) (fun i => n + 1 - (intOf i).toNat)
  case atStart => exact ⟨0, Nat.zero_le _, rfl, hid rfl⟩
  case round =>
    obtain ⟨k, hk, rfl, hok⟩ := hrel
    by_cases hlt : k < n + 1
    · have HA := fun ad hsd => aboveHoist_any ad n cap xs HN.out hm hcap k (by omega) w hsd
      unfold RetPart at HA
      have HY := hid (fun (h : grpAt xs k = true) => allTo_step hok.out h)
      have HZ := hid (fun (h : grpAt xs k = false) => allTo_no (k := xs.length + 1) (by rw [← HN.out]; exact hlt) h)
      have hle := startOf_le xs k
      have hkl : k < n → k < xs.length := fun h => by rw [← HN.out]; exact h
      have hen : (decide (k = xs.length)) = decide (k = n) := by rw [HN.out]
      by_cases hkn : k = n
      · have hg : grpAt xs k = !(decide (startOf xs k = k)) := by unfold grpAt; rw [hen, decide_eq_true hkn]; rfl
        rw [hg] at HY HZ
        clear hg hen hkl
        subst hkn
        by_cases hz : startOf xs k = k
        · have HZ' := hid (HZ.out (by rw [decide_eq_true hz]; rfl))
          have hd : k - startOf xs k = 0 := by omega
          rw [hd] at HA
          have HAH := hid HA
          clear HA HY HZ hz hd hle
          go_wp2_with (go_at_call 79; refine (HAH.out _ S.out).mono ?_; rintro e w' ⟨ad, rfl, -, rfl⟩)
          go_ret
          exact ⟨ret_bool HZ'.out.symm, rfl⟩
        · have HY' := hid (HY.out (by rw [decide_eq_false hz]; rfl))
          obtain ⟨d, hd⟩ : ∃ d, d = k - startOf xs k := ⟨_, rfl⟩
          have hd0 : 0 < d := by omega
          rw [← hd] at HA
          have HAH := hid HA
          clear HA HY HZ hz hd hle
          go_wp2_with (go_at_call 79; refine (HAH.out _ S.out).mono ?_; rintro e w' ⟨ad, rfl, -, rfl⟩)
          go_round
          case rel => exact ⟨k + 1, by omega, by go_num, HY'⟩
          case measure => simp [intOf] <;> omega
      · have hkn' : k < n := by omega
        obtain ⟨b, off, rfl, hc⟩ := S.out k (hkl hkn')
        have hg : grpAt xs k = !(brkI (xs.getD k 0) && decide (startOf xs k = k)) := by unfold grpAt; rw [hen, decide_eq_false hkn]; rfl
        rw [hg] at HY HZ
        clear hg hen hkl
        have HAH := hid HA
        clear HA
        generalize xs.getD k 0 = x at *
        cases hb : brkI x
        · have hx : (x == -10) = false := by have := brkI_no hb; simpa using this
          have HY' := hid (HY.out (by rw [hb]; rfl))
          clear HY HZ hb hle
          go_wp2
          go_round
          case rel => exact ⟨k + 1, by omega, by go_num, HY'⟩
          case measure => simp [intOf] <;> omega
        · have hx : (x == -10) = true := by have := brkI_iff.1 hb; simpa using this
          by_cases hz : startOf xs k = k
          · have HZ' := hid (HZ.out (by rw [hb, decide_eq_true hz]; rfl))
            have HA := HAH.out
            have hd : k - startOf xs k = 0 := by omega
            rw [hd] at HA
            have HAH := hid HA
            clear HA HY HZ hz hd hle hb
            go_wp2_with (go_at_call 79; refine (HAH.out _ S.out).mono ?_; rintro e w' ⟨ad, rfl, -, rfl⟩)
            go_ret
            exact ⟨ret_bool HZ'.out.symm, rfl⟩
          · have HY' := hid (HY.out (by rw [hb, decide_eq_false hz]; rfl))
            have HA := HAH.out
            obtain ⟨d, hd⟩ : ∃ d, d = k - startOf xs k := ⟨_, rfl⟩
            have hd0 : 0 < d := by omega
            rw [← hd] at HA
            have HAH := hid HA
            clear HA HY HZ hz hd hle hb
            go_wp2_with (go_at_call 79; refine (HAH.out _ S.out).mono ?_; rintro e w' ⟨ad, rfl, -, rfl⟩)
            go_round
            case rel => exact ⟨k + 1, by omega, by go_num, HY'⟩
            case measure => simp [intOf] <;> omega
    · have hkn : k = n + 1 := by omega
      have hv : grpsB xs = true := by unfold grpsB; rw [← HN.out, ← hkn]; exact hok.out
      have HV := hid hv
      clear hv
      go_wp2
      go_ret
      exact ⟨ret_bool HV.out.symm, rfl⟩

set_option maxRecDepth 100000 in
set_option maxHeartbeats 2000000 in
theorem hasRepeated_any (a : Option Addr) (n cap : Nat) (xs : List Int) (hn : n = xs.length) (hm : n ≤ 1048576) (hcap : n ≤ cap) (hf : Fits .i8 xs) (w : World) (hs : SliceOf .i8 w a xs) :
    Calls Try.prog 78 #[.slice a n cap] w fun e w' => e = .returned (.bool (repsB xs)) ∧ w = w' := by
  have S := hid hs
  have HN := hid hn
  have HF := hid hf
  clear hs hn hf
  go_enter Try.func78, Try.ntmps78
  go_wp2
  go_loop [7] (fun i => ∃ k : Nat, k ≤ n ∧ i = .int .i64 k ∧ Hid (allTo (repAt xs) k = true)) (fun i => n - (intOf i).toNat)
  case atStart => exact ⟨0, Nat.zero_le _, rfl, hid rfl⟩
  case round =>
    obtain ⟨k, hk, rfl, hok⟩ := hrel
    by_cases hlt : k < n
    · have HA := fun ad hsd => aboveHoist_any ad n cap xs HN.out hm hcap k (by omega) w hsd
      unfold RetPart at HA
      have HY := hid (fun (h : repAt xs k = true) => allTo_step hok.out h)
      have HZ := hid (fun (h : repAt xs k = false) => allTo_no (k := xs.length) (by rw [← HN.out]; exact hlt) h)
      have hle := startOf_le xs k
      obtain ⟨b, off, rfl, hc⟩ := S.out k (by rw [← HN.out]; exact hlt)
      obtain ⟨h0, h1⟩ := HF.out.get8 k
      have hg : repAt xs k = !(subI (xs.getD k 0) && decide (k < startOf xs k + (-(xs.getD k 0)).toNat)) := rfl
      rw [hg] at HY HZ
      clear hg
      obtain ⟨d, hd⟩ : ∃ d, d = k - startOf xs k := ⟨_, rfl⟩
      rw [← hd] at HA
      have HAH := hid HA
      clear HA
      generalize xs.getD k 0 = x at *
      cases hs : subI x
      · have HY' := hid (HY.out (by rw [hs]; rfl))
        clear HY HZ hle hd
        go_wp2_with (first | (go_at_call 46; refine (isSub_any _ h0 h1 _).mono ?_; rintro e w' ⟨rfl, rfl⟩))
        go_round
        case rel => exact ⟨k + 1, by omega, by go_num, HY'⟩
        case measure => simp [intOf] <;> omega
      · obtain ⟨x0, x1⟩ := subI_iff.1 hs
        by_cases hz : (d : Int) < -x
        · have HZ' := hid (HZ.out (by rw [hs, decide_eq_true (by omega)]; rfl))
          clear HY HZ hle hd h0 h1
          go_wp2_with (first | (go_at_call 46; refine (isSub_any _ (by omega) (by omega) _).mono ?_; rintro e w' ⟨rfl, rfl⟩) | (go_at_call 79; refine (HAH.out _ S.out).mono ?_; rintro e w' ⟨ad, rfl, -, rfl⟩))
          go_ret
          exact ⟨ret_bool HZ'.out.symm, rfl⟩
        · have HY' := hid (HY.out (by rw [hs, decide_eq_false (by omega)]; rfl))
          clear HY HZ hle hd h0 h1
          go_wp2_with (first | (go_at_call 46; refine (isSub_any _ (by omega) (by omega) _).mono ?_; rintro e w' ⟨rfl, rfl⟩) | (go_at_call 79; refine (HAH.out _ S.out).mono ?_; rintro e w' ⟨ad, rfl, -, rfl⟩))
          go_round
          case rel => exact ⟨k + 1, by omega, by go_num, HY'⟩
          case measure => simp [intOf] <;> omega
    · have hkn : k = n := by omega
      have hv : repsB xs = true := by unfold repsB; rw [← HN.out, ← hkn]; exact hok.out
      have HV := hid hv
      clear hv
      go_wp2
      go_ret
      exact ⟨ret_bool HV.out.symm, rfl⟩
end Go.Proofs.Ytdighhkgopopeaa
