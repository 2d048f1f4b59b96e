/- Words: what is valid: the functions. -/
import Derived.Test.YtojdbeebgllhhabWordM
namespace Go.Proofs.Ytojdbeebgllhhab
open Go.RowKit
set_option maxRecDepth 100000 in
set_option maxHeartbeats 1000000 in
theorem l05Word_any (a : Option Addr) (n cap : Nat) (xs : List Int) (hn : n = xs.length) (hm : n ≤ 1048576) (hf : Fits .u8 xs) (w : World) (hs : SliceOf .u8 w a xs) :
    Calls Try.prog 116 #[.slice a n cap] w fun e w' => e = .returned (.bool (wordB xs)) ∧ Gr w w' := by
  have S := hid hs
  have HN := hid hn
  have HE := hid (show wordB xs = (allTo (lettB 37 xs) xs.length && wlenB xs) from rfl)
  have HF := hid hf
  have HL := hid (show wlenB xs = betB (n : Int) 1 8 by unfold wlenB; rw [hn])
  clear hs hn hf
  go_enter Try.func116, Try.ntmps116
  go_wp2
  go_loop [3] (fun i => ∃ k : Nat, k ≤ n ∧ i = .int .i64 k ∧ Hid (allTo (lettB 37 xs) k = true)) (fun i => n - (intOf i).toNat)
  case atStart => exact ⟨0, Nat.zero_le _, rfl, hid rfl⟩
  case round =>
    obtain ⟨k, hk, rfl, hok⟩ := hrel
    by_cases hlt : k < n
    · obtain ⟨b, off, rfl, hc⟩ := S.out k (by rw [← HN.out]; exact hlt)
      have HY := hid (fun (h : lettB 37 xs k = true) => allTo_step hok.out h)
      have HZ := hid (fun (h : lettB 37 xs k = false) => allTo_no (p := lettB 37 xs) (k := xs.length) (by rw [← HN.out]; exact hlt) h)
      obtain ⟨hx0, hx1⟩ := HF.out.getu k
      have hg : lettB 37 xs k = decide (xs.getD k 0 < 37) := rfl
      rw [hg] at HY HZ
      clear hg
      generalize xs.getD k 0 = x at *
      by_cases hx : x < 37
      · have HY' := hid (HY.out (decide_eq_true hx))
        clear HY HZ
        go_wp2
        go_round
        case rel => exact ⟨k + 1, by omega, by go_num, HY'⟩
        case measure => simp [intOf] <;> omega
      · have HZ' := hid (HZ.out (decide_eq_false hx))
        clear HY HZ
        go_wp2
        go_ret
        exact ⟨ret_bool (by rw [HE.out, HZ'.out, Bool.false_and]), Gr.refl _⟩
    · have hkn : k = n := by omega
      have hv : wordB xs = betB (n : Int) 1 8 := by rw [HE.out, ← HN.out, ← hkn, hok.out, Bool.true_and, HL.out, ← hkn]
      have HV := hid hv
      clear hv hkn
      go_wp2_with (go_at_call 70; refine (l00In_b _ _ _ _).mono ?_; rintro e w' ⟨rfl, rfl⟩)
      go_ret
      exact ⟨ret_bool HV.out.symm, Gr.refl _⟩
/-- The lesser one of a number and 37. -/
def cap37 (p : Int) : Int := if p ≤ 37 then p else 37
set_option maxRecDepth 100000 in
theorem isOf1_any (x : Int) (h0 : 0 ≤ x) (h1 : x ≤ 255) (bl : Nat) (p : Int) (w : World) (hc : w.cell? ⟨bl, 0, none⟩ = some (.int .i64 p)) :
    Calls Try.prog 125 #[.int .u8 x, .pointer (some ⟨bl, 0, none⟩)] w fun e w' => e = .returned (.bool (decide (x < cap37 p))) ∧ w = w' := by
  have e1 : IntKind.i64.wrap x = x := IntWalk.i64_in _ (by omega)
  have HQ := hid (show cap37 p = if p ≤ 37 then p else 37 from rfl)
  by_cases hp : p ≤ 37
  · have HP := hid (HQ.out.trans (if_pos hp))
    clear HQ
    by_cases hx : x < p
    · go_enter Try.func125, Try.ntmps125
      go_wp2
      go_ret
      exact ⟨ret_bool (by rw [HP.out, decide_eq_true hx]), rfl⟩
    · have hx' : p ≤ x := by omega
      go_enter Try.func125, Try.ntmps125
      go_wp2
      go_ret
      exact ⟨ret_bool (by rw [HP.out, decide_eq_false (by omega)]), rfl⟩
  · have HP := hid (HQ.out.trans (if_neg hp))
    have hp' : 37 < p := by omega
    clear HQ
    by_cases hx : x < 37
    · go_enter Try.func125, Try.ntmps125
      go_wp2
      go_ret
      exact ⟨ret_bool (by rw [HP.out, decide_eq_true hx]), rfl⟩
    · have hx' : 37 ≤ x := by omega
      go_enter Try.func125, Try.ntmps125
      go_wp2
      go_ret
      exact ⟨ret_bool (by rw [HP.out, decide_eq_false (by omega)]), rfl⟩
set_option maxRecDepth 100000 in
set_option maxHeartbeats 1000000 in
theorem allOf_any (a : Option Addr) (n cap : Nat) (xs : List Int) (hn : n = xs.length) (hm : n ≤ 1048576) (hf : Fits .u8 xs) (bl : Nat) (p : Int) (w : World) (hs : SliceOf .u8 w a xs) (hb : w.cell? ⟨bl, 0, none⟩ = some (.int .i64 p)) :
    Calls Try.prog 124 #[.slice a n cap, .func (.func 125) #[] #[.pointer (some ⟨bl, 0, none⟩)]] w fun e w' => e = .returned (.bool (allTo (lettB (cap37 p) xs) xs.length)) ∧ w = w' := by
  have S := hid hs
  have HN := hid hn
  have HF := hid hf
  have HB := hid hb
  clear hs hn hf hb
  go_enter Try.func124, Try.ntmps124
  go_wp2
  go_loop [9] (fun i => ∃ k : Nat, k ≤ n ∧ i = .int .i64 k ∧ Hid (allTo (lettB (cap37 p) xs) k = true)) (fun i => n - (intOf i).toNat)
  case atStart => exact ⟨0, Nat.zero_le _, rfl, hid rfl⟩
  case round =>
    obtain ⟨k, hk, rfl, hok⟩ := hrel
    by_cases hlt : k < n
    · obtain ⟨b, off, rfl, hc⟩ := S.out k (by rw [← HN.out]; exact hlt)
      have HY := hid (fun (h : lettB (cap37 p) xs k = true) => allTo_step hok.out h)
      have HZ := hid (fun (h : lettB (cap37 p) xs k = false) => allTo_no (p := lettB (cap37 p) xs) (k := xs.length) (by rw [← HN.out]; exact hlt) h)
      obtain ⟨hx0, hx1⟩ := HF.out.getu k
      have hg : lettB (cap37 p) xs k = decide (xs.getD k 0 < cap37 p) := rfl
      rw [hg] at HY HZ
      clear hg
      generalize xs.getD k 0 = x at *
      have HC := hid (isOf1_any x hx0 hx1 bl p w HB.out)
      generalize hv : decide (x < cap37 p) = v at *
      clear hv
      cases v
      · have HZ' := hid (HZ.out rfl)
        clear HY HZ
        go_wp2_with fail
        refine HC.out.mono ?_
        rintro e w' ⟨rfl, rfl⟩
        go_wp2_with fail
        go_ret
        exact ⟨ret_bool HZ'.out.symm, rfl⟩
      · have HY' := hid (HY.out rfl)
        clear HY HZ
        go_wp2_with fail
        refine HC.out.mono ?_
        rintro e w' ⟨rfl, rfl⟩
        go_wp2_with fail
        go_round
        case rel => exact ⟨k + 1, by omega, by go_num, HY'⟩
        case measure => simp [intOf] <;> omega
    · have hkn : k = n := by omega
      have hv : allTo (lettB (cap37 p) xs) xs.length = true := by rw [← HN.out, ← hkn]; exact hok.out
      have HV := hid hv
      clear hv hkn
      go_wp2_with fail
      go_ret
      exact ⟨ret_bool HV.out.symm, rfl⟩
set_option maxRecDepth 100000 in
set_option maxHeartbeats 1000000 in
theorem isOf_any (a : Option Addr) (n cap : Nat) (xs : List Int) (hn : n = xs.length) (hm : n ≤ 1048576) (hf : Fits .u8 xs) (p : Int) (w : World) (hs : SliceOf .u8 w a xs) :
    Calls Try.prog 68 #[.slice a n cap, .int .i64 p] w fun e w' => e = .returned (.bool (ofB p xs)) ∧ Gr w w' := by
  have HE := hid (show ofB p xs = (betB (n : Int) 1 8 && allTo (lettB (cap37 p) xs) xs.length) by unfold ofB wlenB cap37; rw [hn])
  have HC := hid (fun (V : World) (g : Gr w V) bl (hb : V.cell? ⟨bl, 0, none⟩ = some (.int .i64 p)) => allOf_any a n cap xs hn hm hf bl p V (hs.gr g) hb)
  generalize ofB p xs = r at *
  generalize allTo (lettB (cap37 p) xs) xs.length = q at *
  clear hs hn hf
  by_cases h1 : n < 1
  · have HR := hid (show r = false by rw [HE.out, betW_no.2 (by omega), Bool.false_and])
    obtain rfl : n = 0 := by omega
    go_enter Try.func68, Try.ntmps68
    go_wp2_with fail
    go_ret
    exact ⟨ret_bool HR.out.symm, (Gr.refl _).alloc _⟩
  · by_cases h8 : 8 < n
    · have HR := hid (show r = false by rw [HE.out, betW_no.2 (by omega), Bool.false_and])
      go_enter Try.func68, Try.ntmps68
      go_wp2_with fail
      go_ret
      exact ⟨ret_bool HR.out.symm, (Gr.refl _).alloc _⟩
    · have HR := hid (show r = q by rw [HE.out, betW.2 (by omega), Bool.true_and])
      have h1' : 1 ≤ n := by omega
      have h8' : n ≤ 8 := by omega
      go_enter Try.func68, Try.ntmps68
      go_wp2_with fail
      refine (HC.out _ ((Gr.refl _).alloc _) _ (by rw [cell_of_row _ _ _ _ _ _ (heap_new rfl)]; rfl)).mono ?_
      rintro e w' ⟨rfl, rfl⟩
      go_wp2_with fail
      go_ret
      exact ⟨ret_bool HR.out.symm, (Gr.refl _).alloc _⟩
set_option maxRecDepth 100000 in
theorem isValid_any (a : Option Addr) (n cap : Nat) (xs : List Int) (hn : n = xs.length) (hm : n ≤ 1048576) (hf : Fits .u8 xs) (w : World) (hs : SliceOf .u8 w a xs) :
    Calls Try.prog 117 #[.slice a n cap] w fun e w' => e = .returned (.bool (wordB xs)) ∧ Gr w w' := by
  have HC := hid (isOf_any a n cap xs hn hm hf 37 w hs)
  rw [ofB_37] at HC
  generalize wordB xs = r at *
  clear hs hn hf
  go_enter Try.func117, Try.ntmps117
  go_wp2_with fail
  refine HC.out.mono ?_
  rintro e w' ⟨rfl, g⟩
  have G := hid g
  clear g
  go_wp2_with fail
  go_ret
  exact ⟨rfl, G.out⟩
end Go.Proofs.Ytojdbeebgllhhab
