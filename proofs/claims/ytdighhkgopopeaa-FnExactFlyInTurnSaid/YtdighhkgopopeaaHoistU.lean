/- ValidMeaning: the functions. -/
import Derived.Test.YtdighhkgopopeaaHoistT
namespace Go.Proofs.Ytdighhkgopopeaa
set_option linter.unusedVariables false
open Go.RowKit
/-- No substitute. -/
def ownAt (xs : List Int) (i : Nat) : Bool := !subI (xs.getD i 0)
def plainH (xs : List Int) : Bool := validH xs && allTo (ownAt xs) xs.length
/-- No number below 0 but breaks. -/
def upAt (xs : List Int) (i : Nat) : Bool := !(decide (xs.getD i 0 < 0) && (xs.getD i 0 != -10))
theorem plainH_up (xs : List Int) : plainH xs = (allTo (upAt xs) xs.length && validH xs) := by
  rw [Bool.eq_iff_iff]
  unfold plainH
  simp only [Bool.and_eq_true, allTo_iff]
  constructor
  · rintro ⟨hv, ho⟩
    refine ⟨fun i hi => ?_, hv⟩
    have h1 := ho i hi
    have h2 := validH_at hv hi
    unfold ownAt at h1
    simp only [Bool.not_eq_true'] at h1
    unfold upAt
    by_cases hb : xs.getD i 0 = -10
    · rw [hb]; rfl
    · have := okAt_kind h2 hb h1
      rw [decide_eq_false (show ¬ xs.getD i 0 < 0 by omega)]; rfl
  · rintro ⟨ho, hv⟩
    refine ⟨hv, fun i hi => ?_⟩
    have h1 := ho i hi
    unfold upAt at h1
    unfold ownAt
    cases hs : subI (xs.getD i 0)
    · rfl
    · have h3 := subI_iff.1 hs
      rw [decide_eq_true (show xs.getD i 0 < 0 by omega), show (xs.getD i 0 != -10) = true by rw [bne_iff_ne]; omega] at h1
      simp at h1
theorem plainH_valid {xs : List Int} (h : plainH xs = true) : validH xs = true := by unfold plainH at h; simp only [Bool.and_eq_true] at h; exact h.1

set_option maxRecDepth 100000 in
set_option maxHeartbeats 1000000 in
theorem l02Plain_any (a : Option Addr) (n cap : Nat) (xs : List Int) (hn : n = xs.length) (hm : n ≤ 1048576) (hf : Fits .i8 xs) (w : World) (hs : SliceOf .i8 w a xs) :
    Calls Try.prog 24 #[.slice a n cap] w fun e w' => e = .returned (.bool (plainH xs)) ∧ Gr w w' := by
  have h := hid (l02Ok_any a n cap xs hn hm hf w hs)
  have S := hid hs
  have HN := hid hn
  have HP := hid (plainH_up xs)
  have HF := hid hf
  clear hs hn hf
  go_enter Try.func24, Try.ntmps24
  go_wp2
  go_loop [3] (fun i => ∃ k : Nat, k ≤ n ∧ i = .int .i64 k ∧ Hid (allTo (upAt xs) k = true)) (fun i => n - (intOf i).toNat)
  case atStart => exact ⟨0, Nat.zero_le _, rfl, hid rfl⟩
  case round =>
    obtain ⟨k, hk, rfl, hok⟩ := hrel
    by_cases hlt : k < n
    · obtain ⟨b, off, rfl, hc⟩ := S.out k (by rw [← HN.out]; exact hlt)
      have HY := hid (fun (h : upAt xs k = true) => allTo_step hok.out h)
      have HZ := hid (fun (h : upAt xs k = false) => allTo_no (k := xs.length) (by rw [← HN.out]; exact hlt) h)
      have hg : upAt xs k = !(decide (xs.getD k 0 < 0) && (xs.getD k 0 != -10)) := rfl
      rw [hg] at HY HZ
      clear hg
      generalize xs.getD k 0 = x at *
      by_cases hx0 : x < 0
      · cases hb : (x != -10)
        · have HY' := hid (HY.out (by rw [hb, Bool.and_false]; rfl))
          have hx : (x == -10) = true := by simpa using hb
          clear HY HZ
          go_wp2
          go_round
          case rel => exact ⟨k + 1, by omega, by go_num, HY'⟩
          case measure => simp [intOf] <;> omega
        · have HZ' := hid (HZ.out (by rw [hb, decide_eq_true hx0]; rfl))
          have hx : (x == -10) = false := by simpa using hb
          clear HY HZ
          go_wp2
          go_ret
          exact ⟨ret_bool (by rw [HP.out, HZ'.out, Bool.false_and]), Gr.refl _⟩
      · have HY' := hid (HY.out (by rw [decide_eq_false hx0]; rfl))
        clear HY HZ
        go_wp2
        go_round
        case rel => exact ⟨k + 1, by omega, by go_num, HY'⟩
        case measure => simp [intOf] <;> omega
    · have hkn : k = n := by omega
      have hv : plainH xs = validH xs := by rw [HP.out, ← HN.out, ← hkn, hok.out, Bool.true_and]
      have HV := hid hv
      clear hv hkn
      go_wp2_with fail
      refine h.out.mono ?_
      rintro e w' ⟨rfl, g⟩
      have G := hid g
      clear g
      go_wp2_with fail
      go_ret
      exact ⟨ret_bool HV.out.symm, G.out⟩
/-- Whether a substitute is in the list. -/
def FoundIdx (b : Bool) (w : World) (e : Ending) (w' : World) : Prop := ∃ r : Int, e = .returned (.int .i64 r) ∧ decide (0 ≤ r) = b ∧ w = w'
set_option maxRecDepth 100000 in
set_option maxHeartbeats 1000000 in
theorem indexSub_any (a : Option Addr) (n cap : Nat) (xs : List Int) (hn : n = xs.length) (hm : n ≤ 1048576) (hf : Fits .i8 xs) (w : World) (hs : SliceOf .i8 w a xs) :
    Calls Try.prog 80 #[.slice a n cap, .func (.func 46) #[] #[]] w (FoundIdx (!allTo (ownAt xs) xs.length) w) := by
  have S := hid hs
  have HN := hid hn
  have HF := hid hf
  clear hs hn hf
  go_enter Try.func80, Try.ntmps80
  go_wp2
  go_loop [8] (fun i => ∃ k : Nat, k ≤ n ∧ i = .int .i64 k ∧ Hid (allTo (ownAt xs) k = true)) (fun i => n - (intOf i).toNat)
  case atStart => exact ⟨0, Nat.zero_le _, rfl, hid rfl⟩
  case round =>
    obtain ⟨k, hk, rfl, hok⟩ := hrel
    by_cases hlt : k < n
    · obtain ⟨b, off, rfl, hc⟩ := S.out k (by rw [← HN.out]; exact hlt)
      obtain ⟨h0, h1⟩ := HF.out.get8 k
      have HY := hid (fun (h : ownAt xs k = true) => allTo_step hok.out h)
      have HZ := hid (fun (h : ownAt xs k = false) => allTo_no (k := xs.length) (by rw [← HN.out]; exact hlt) h)
      have hg : ownAt xs k = !subI (xs.getD k 0) := rfl
      rw [hg] at HY HZ
      clear hg
      generalize xs.getD k 0 = x at *
      cases hsb : subI x
      · have HY' := hid (HY.out (by rw [hsb]; rfl))
        clear HY HZ
        go_wp2_with fail
        refine (isSub_any _ h0 h1 _).mono ?_
        rintro e w' ⟨rfl, rfl⟩
        go_wp2_with fail
        go_round
        case rel => exact ⟨k + 1, by omega, by go_num, HY'⟩
        case measure => simp [intOf] <;> omega
      · have HZ' := hid (HZ.out (by rw [hsb]; rfl))
        clear HY HZ
        go_wp2_with fail
        refine (isSub_any _ h0 h1 _).mono ?_
        rintro e w' ⟨rfl, rfl⟩
        go_wp2_with fail
        go_ret
        exact ⟨_, rfl, by rw [HZ'.out, decide_eq_true (by omega)]; rfl, rfl⟩
    · have hkn : k = n := by omega
      have hv : allTo (ownAt xs) xs.length = true := by rw [← HN.out, ← hkn]; exact hok.out
      have HV := hid hv
      clear hv hkn
      go_wp2_with fail
      go_ret
      exact ⟨_, rfl, by rw [HV.out]; rfl, rfl⟩
set_option maxRecDepth 100000 in
theorem containsSub_any (a : Option Addr) (n cap : Nat) (xs : List Int) (hn : n = xs.length) (hm : n ≤ 1048576) (hf : Fits .i8 xs) (w : World) (hs : SliceOf .i8 w a xs) :
    Calls Try.prog 75 #[.slice a n cap, .func (.func 46) #[] #[]] w fun e w' => e = .returned (.bool (!allTo (ownAt xs) xs.length)) ∧ w = w' := by
  have h := hid (indexSub_any a n cap xs hn hm hf w hs)
  clear hs hn hf
  generalize (!allTo (ownAt xs) xs.length) = b at *
  go_enter Try.func75, Try.ntmps75
  go_wp2_with fail
  refine h.out.mono ?_
  rintro e w' ⟨r, rfl, hr, rfl⟩
  have HR := hid hr
  clear hr
  go_wp2_with fail
  go_ret
  exact ⟨ret_bool HR.out, rfl⟩
set_option maxRecDepth 100000 in
set_option maxHeartbeats 1000000 in
theorem impl_ValidMeaning_cap (a : Option Addr) (n cap : Nat) (xs : List Int) (hn : n = xs.length) (hm : n ≤ 1048576) (hcap : n ≤ cap) (hf : Fits .i8 xs) (w : World) (hs : SliceOf .i8 w a xs) :
    Calls Try.prog 73 #[.slice a n cap] w fun e w' => e = .returned (.bool (plainH xs)) ∧ Gr w w' := by
  have h := hid (impl_ValidHoist_cap a n cap xs hn hm hcap hf w hs)
  have h2 := hid (fun (W : World) (g : Gr w W) => containsSub_any a n cap xs hn hm hf W (hs.gr g))
  have hp : plainH xs = (validH xs && !(!allTo (ownAt xs) xs.length)) := by unfold plainH; rw [Bool.not_not]
  have HP := hid hp
  clear hs hn hf hp
  generalize (!allTo (ownAt xs) xs.length) = b at *
  cases hv : validH xs
  · have HV := hid (show plainH xs = false by rw [HP.out, hv]; rfl)
    rw [hv] at h
    clear hv h2
    go_enter Try.func73, Try.ntmps73
    go_wp2_with fail
    refine h.out.mono ?_
    rintro e w' ⟨rfl, g⟩
    have G := hid g
    clear g
    go_wp2_with fail
    go_ret
    exact ⟨ret_bool HV.out.symm, G.out⟩
  · have HV := hid (show plainH xs = !b by rw [HP.out, hv]; rfl)
    rw [hv] at h
    clear hv
    go_enter Try.func73, Try.ntmps73
    go_wp2_with fail
    refine h.out.mono ?_
    rintro e w1 ⟨rfl, g⟩
    have G := hid g
    clear g
    go_wp2_with fail
    refine (h2.out _ G.out).mono ?_
    rintro e w2 ⟨rfl, rfl⟩
    go_wp2_with fail
    go_ret
    exact ⟨ret_bool HV.out.symm, G.out⟩
theorem impl_ValidMeaning_any (a : Option Addr) (xs : List Int) (hm : xs.length ≤ 1048576) (hf : Fits .i8 xs) (w : World) (hs : SliceOf .i8 w a xs) :
    Calls Try.prog 73 #[.slice a xs.length xs.length] w fun e w' => e = .returned (.bool (plainH xs)) ∧ Gr w w' := impl_ValidMeaning_cap a _ _ xs rfl hm (Nat.le_refl _) hf w hs
end Go.Proofs.Ytdighhkgopopeaa
