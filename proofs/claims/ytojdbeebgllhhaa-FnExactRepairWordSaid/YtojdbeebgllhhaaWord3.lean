/- Checks of words: SyndromesOf, IsChecked: the functions. -/
import Derived.Test.YtojdbeebgllhhaaWord1
import Derived.Test.YtojdbeebgllhhaaWordN
namespace Go.Proofs.Ytojdbeebgllhhaa
open Go.RowKit
theorem div_yes {n : Int} {i : Nat} (h : divB n i = true) : (n % ((i : Int) + 2) == 0) = false := by simpa [divB] using h
theorem div_no {n : Int} {i : Nat} (h : divB n i = false) : (n % ((i : Int) + 2) == 0) = true := by simpa [divB] using h
set_option maxRecDepth 100000 in
set_option maxHeartbeats 1000000 in
theorem l05Prime_any (p : Int) (w : World) :
    Calls Try.prog 89 #[.int .i64 p] w fun e w' => e = .returned (.bool (betB p 3 37 && primeB p)) ∧ w = w' := by
  cases hb : betB p 3 37
  · have HBV := hid hb
    clear hb
    go_enter Try.func89, Try.ntmps89
    go_wp2_with (go_at_call 49; refine (l00In_b _ _ _ _).mono ?_; rintro e w' ⟨rfl, rfl⟩; rw [HBV.out])
    go_ret
    exact ⟨rfl, rfl⟩
  · have HBV := hid hb
    obtain ⟨p3, p37⟩ := betW.1 hb
    obtain ⟨n, rfl⟩ : ∃ n : Nat, p = (n : Int) + 2 := ⟨(p - 2).toNat, by omega⟩
    have HP := hid (show primeB ((n : Int) + 2) = allTo (divB ((n : Int) + 2)) n by unfold primeB; rw [show ((n : Int) + 2).toNat - 2 = n by omega])
    clear hb
    go_enter Try.func89, Try.ntmps89
    go_wp2_with (go_at_call 49; refine (l00In_b _ _ _ _).mono ?_; rintro e w' ⟨rfl, rfl⟩; rw [HBV.out])
    go_loop [3] (fun i => ∃ k : Nat, k ≤ n ∧ i = .int .i64 ((k : Int) + 2) ∧ Hid (allTo (divB ((n : Int) + 2)) k = true)) (fun i => n + 2 - (intOf i).toNat)
    case atStart => exact ⟨0, Nat.zero_le _, rfl, hid rfl⟩
    case round =>
      obtain ⟨k, hk, rfl, hok⟩ := hrel
      by_cases hlt : k < n
      · have hd0 : (k : Int) + 2 ≠ 0 := by omega
        cases hv : divB ((n : Int) + 2) k
        · have HN := hid (allTo_no (p := divB ((n : Int) + 2)) (k := n) hlt hv)
          have hz := div_no hv
          clear hv
          go_wp2
          go_ret
          exact ⟨ret_bool (by rw [HP.out, HN.out]), rfl⟩
        · have HS := hid (allTo_step hok.out hv)
          have hz := div_yes hv
          clear hv
          go_wp2
          go_round
          case rel => exact ⟨k + 1, by omega, by go_num, HS⟩
          case measure => simp [intOf] <;> omega
      · have hkn : k = n := by omega
        have hok' := hok.out
        rw [hkn] at hok'
        have hv : primeB ((n : Int) + 2) = true := HP.out.trans hok'
        have HV := hid hv
        clear hv hkn
        go_wp2
        go_ret
        exact ⟨ret_bool (by rw [HV.out]), rfl⟩
set_option maxRecDepth 100000 in
set_option maxHeartbeats 1000000 in
theorem isPrime_any (p : Int) (p3 : 3 ≤ p) (p37 : p ≤ 37) (w : World) :
    Calls Try.prog 90 #[.int .i64 p] w fun e w' => e = .returned (.bool (primeB p)) ∧ w = w' := by
  obtain ⟨n, rfl⟩ : ∃ n : Nat, p = (n : Int) + 2 := ⟨(p - 2).toNat, by omega⟩
  have HP := hid (show primeB ((n : Int) + 2) = allTo (divB ((n : Int) + 2)) n by unfold primeB; rw [show ((n : Int) + 2).toNat - 2 = n by omega])
  go_enter Try.func90, Try.ntmps90
  go_wp2
  go_loop [3] (fun i => ∃ k : Nat, k ≤ n ∧ i = .int .i64 ((k : Int) + 2) ∧ Hid (allTo (divB ((n : Int) + 2)) k = true)) (fun i => n + 2 - (intOf i).toNat)
  case atStart => exact ⟨0, Nat.zero_le _, rfl, hid rfl⟩
  case round =>
    obtain ⟨k, hk, rfl, hok⟩ := hrel
    by_cases hlt : k < n
    · have hd0 : (k : Int) + 2 ≠ 0 := by omega
      cases hv : divB ((n : Int) + 2) k
      · have HN := hid (allTo_no (p := divB ((n : Int) + 2)) (k := n) hlt hv)
        have hz := div_no hv
        clear hv
        go_wp2
        go_ret
        exact ⟨ret_bool (by rw [HP.out, HN.out]), rfl⟩
      · have HS := hid (allTo_step hok.out hv)
        have hz := div_yes hv
        clear hv
        go_wp2
        go_round
        case rel => exact ⟨k + 1, by omega, by go_num, HS⟩
        case measure => simp [intOf] <;> omega
    · have hkn : k = n := by omega
      have hok' := hok.out
      rw [hkn] at hok'
      have hv : primeB ((n : Int) + 2) = true := HP.out.trans hok'
      have HV := hid hv
      clear hv hkn
      go_wp2
      go_ret
      exact ⟨ret_bool (by rw [HV.out]; exact decide_eq_true (by omega)), rfl⟩
/-- What both remainders need. -/
theorem mod_facts {a p : Int} (p3 : 3 ≤ p) (p37 : p ≤ 37) (h0 : -1000000 ≤ a) (h1 : a ≤ 1000000) :
    IntKind.i64.wrap (a.tmod p) = a.tmod p ∧ IntKind.i64.wrap (a.tmod p + p) = a.tmod p + p ∧ IntKind.i64.wrap ((a.tmod p + p).tmod p) = (a.tmod p + p).tmod p ∧ (a.tmod p + p).tmod p = a % p := by
  have h := tmod_shift (a := a) (show 0 < p by omega)
  have e0 := Int.emod_nonneg a (show p ≠ 0 by omega)
  have e1 := Int.emod_lt_of_pos a (show 0 < p by omega)
  have t0 := Int.tmod_lt_of_pos (-a) (show 0 < p by omega)
  rw [Int.neg_tmod] at t0
  have t1 := Int.tmod_lt_of_pos a (show 0 < p by omega)
  refine ⟨IntWalk.i64_in _ (by omega), IntWalk.i64_in _ (by omega), IntWalk.i64_in _ (by omega), h⟩
set_option maxRecDepth 100000 in
theorem modulo_any (a p : Int) (p3 : 3 ≤ p) (p37 : p ≤ 37) (h0 : -1000000 ≤ a) (h1 : a ≤ 1000000) (w : World) :
    Calls Try.prog 69 #[.int .i64 a, .int .i64 p] w fun e w' => e = .returned (.int .i64 (a % p)) ∧ w = w' := by
  obtain ⟨m1, m2, m3, m4⟩ := mod_facts p3 p37 h0 h1
  have M4 := hid m4
  have hp0 : p ≠ 0 := by omega
  clear m4
  go_enter Try.func69, Try.ntmps69
  go_wp2
  go_ret
  exact ⟨ret_int M4.out, rfl⟩
set_option maxRecDepth 100000 in
theorem l05Mod_any (a p : Int) (p3 : 3 ≤ p) (p37 : p ≤ 37) (h0 : -1000000 ≤ a) (h1 : a ≤ 1000000) (w : World) :
    Calls Try.prog 68 #[.int .i64 a, .int .i64 p] w fun e w' => e = .returned (.int .i64 (a % p)) ∧ w = w' := by
  obtain ⟨m1, m2, m3, m4⟩ := mod_facts p3 p37 h0 h1
  have M4 := hid m4
  have hp0 : p ≠ 0 := by omega
  clear m4
  go_enter Try.func68, Try.ntmps68
  go_wp2
  go_ret
  exact ⟨ret_int M4.out, rfl⟩
set_option maxRecDepth 100000 in
set_option maxHeartbeats 2000000 in
theorem l05Checked_any (p : Int) (a : Option Addr) (n cap : Nat) (xs : List Int) (hn : n = xs.length) (hm : n ≤ 1048576) (hf : Fits .u8 xs) (w : World) (hs : SliceOf .u8 w a xs) :
    Calls Try.prog 54 #[.int .i64 p, .slice a n cap] w fun e w' => e = .returned (.int .i64 (synC p xs)) ∧ Gr w w' := by
  have HW := hid (l05Word_any a n cap xs hn hm hf w hs)
  have HB := hid (fun V (g : Gr w V) => l05Below_any p a n cap xs hn hm hf V (hs.gr g))
  have HPR := hid (fun V => l05Prime_any p V)
  have HQ := hid (show synC p xs = if betB p 3 37 && primeB p then (if (wordB xs && belowB p xs) && decide ((n : Int) ≤ p - 1) then 0 else 1) else 2 by unfold synC; rw [ofB_eq, hn])
  have HB3 := hid (fun (h : (betB p 3 37 && primeB p) = true) => by simp only [Bool.and_eq_true, betW] at h; exact h.1)
  generalize synC p xs = r at *
  generalize (betB p 3 37 && primeB p) = q at *
  generalize wordB xs = wb at *
  generalize belowB p xs = bb at *
  clear hs hn hf
  cases q
  · have HR := hid (show r = 2 from HQ.out)
    clear HQ HB3
    go_enter Try.func54, Try.ntmps54
    go_wp2_with fail
    refine (HPR.out _).mono ?_
    rintro e w' ⟨rfl, rfl⟩
    go_wp2_with fail
    go_ret
    exact ⟨ret_int HR.out.symm, Gr.refl _⟩
  · have h3 : 3 ≤ p ∧ p ≤ 37 := HB3.out rfl
    clear HB3
    obtain ⟨p3, p37⟩ := h3
    cases wb
    · have HR := hid (show r = 1 by rw [HQ.out]; rfl)
      clear HQ
      go_enter Try.func54, Try.ntmps54
      go_wp2_with fail
      refine (HPR.out _).mono ?_
      rintro e w' ⟨rfl, rfl⟩
      go_wp2_with fail
      refine HW.out.mono ?_
      rintro e w1 ⟨rfl, g1⟩
      have G1 := hid g1
      clear g1
      go_wp2_with fail
      go_ret
      exact ⟨ret_int HR.out.symm, G1.out⟩
    · cases bb
      · have HR := hid (show r = 1 by rw [HQ.out]; rfl)
        clear HQ
        go_enter Try.func54, Try.ntmps54
        go_wp2_with fail
        refine (HPR.out _).mono ?_
        rintro e w' ⟨rfl, rfl⟩
        go_wp2_with fail
        refine HW.out.mono ?_
        rintro e w1 ⟨rfl, g1⟩
        have G1 := hid g1
        clear g1
        go_wp2_with fail
        refine (HB.out _ G1.out).mono ?_
        rintro e w2 ⟨rfl, g2⟩
        have G2 := hid (G1.out.trans g2)
        clear g2 G1
        go_wp2_with fail
        go_ret
        exact ⟨ret_int HR.out.symm, G2.out⟩
      · by_cases hl : (n : Int) ≤ p - 1
        · have HR := hid (show r = 0 by rw [HQ.out, decide_eq_true hl]; rfl)
          clear HQ
          go_enter Try.func54, Try.ntmps54
          go_wp2_with fail
          refine (HPR.out _).mono ?_
          rintro e w' ⟨rfl, rfl⟩
          go_wp2_with fail
          refine HW.out.mono ?_
          rintro e w1 ⟨rfl, g1⟩
          have G1 := hid g1
          clear g1
          go_wp2_with fail
          refine (HB.out _ G1.out).mono ?_
          rintro e w2 ⟨rfl, g2⟩
          have G2 := hid (G1.out.trans g2)
          clear g2 G1
          go_wp2_with fail
          go_ret
          exact ⟨ret_int HR.out.symm, G2.out⟩
        · have HR := hid (show r = 1 by rw [HQ.out, decide_eq_false hl]; rfl)
          have hl' : p - 1 < (n : Int) := by omega
          clear HQ
          go_enter Try.func54, Try.ntmps54
          go_wp2_with fail
          refine (HPR.out _).mono ?_
          rintro e w' ⟨rfl, rfl⟩
          go_wp2_with fail
          refine HW.out.mono ?_
          rintro e w1 ⟨rfl, g1⟩
          have G1 := hid g1
          clear g1
          go_wp2_with fail
          refine (HB.out _ G1.out).mono ?_
          rintro e w2 ⟨rfl, g2⟩
          have G2 := hid (G1.out.trans g2)
          clear g2 G1
          go_wp2_with fail
          go_ret
          exact ⟨ret_int HR.out.symm, G2.out⟩
set_option maxRecDepth 100000 in
set_option maxHeartbeats 2000000 in
theorem checkSyndromes_any (p : Int) (a : Option Addr) (n cap : Nat) (xs : List Int) (hn : n = xs.length) (hm : n ≤ 1048576) (hf : Fits .u8 xs) (w : World) (hs : SliceOf .u8 w a xs) :
    Calls Try.prog 56 #[.int .i64 p, .slice a n cap] w fun e w' => e = .returned (.int .i64 (synC p xs)) ∧ Gr w w' := by
  have HW := hid (isOf_any a n cap xs hn hm hf p w hs)
  have HQ := hid (show synC p xs = if betB p 3 37 && primeB p then (if ofB p xs && decide ((n : Int) ≤ p - 1) then 0 else 1) else 2 by unfold synC; rw [hn])
  generalize synC p xs = r at *
  generalize ofB p xs = ob at *
  clear hs hn hf
  cases hb : betB p 3 37
  · have HR := hid (show r = 2 by rw [HQ.out, hb]; rfl)
    have HBV := hid hb
    clear HQ hb
    go_enter Try.func56, Try.ntmps56
    go_wp2_with (go_at_call 52; refine (isBetween_any _ _ _ _).mono ?_; rintro e w' ⟨rfl, rfl⟩; rw [HBV.out])
    go_ret
    exact ⟨ret_int HR.out.symm, Gr.refl _⟩
  · obtain ⟨p3, p37⟩ := betW.1 hb
    have HPR := hid (fun V => isPrime_any p p3 p37 V)
    have HBV := hid hb
    rw [hb, Bool.true_and] at HQ
    clear hb
    generalize primeB p = q at *
    cases q
    · have HR := hid (show r = 2 from HQ.out)
      clear HQ
      go_enter Try.func56, Try.ntmps56
      go_wp2_with (go_at_call 52; refine (isBetween_any _ _ _ _).mono ?_; rintro e w' ⟨rfl, rfl⟩; rw [HBV.out])
      refine (HPR.out _).mono ?_
      rintro e w' ⟨rfl, rfl⟩
      go_wp2_with fail
      go_ret
      exact ⟨ret_int HR.out.symm, Gr.refl _⟩
    · cases ob
      · have HR := hid (show r = 1 from HQ.out)
        clear HQ
        go_enter Try.func56, Try.ntmps56
        go_wp2_with (go_at_call 52; refine (isBetween_any _ _ _ _).mono ?_; rintro e w' ⟨rfl, rfl⟩; rw [HBV.out])
        refine (HPR.out _).mono ?_
        rintro e w' ⟨rfl, rfl⟩
        go_wp2_with fail
        refine HW.out.mono ?_
        rintro e w1 ⟨rfl, g1⟩
        have G1 := hid g1
        clear g1
        go_wp2_with fail
        go_ret
        exact ⟨ret_int HR.out.symm, G1.out⟩
      · by_cases hl : (n : Int) ≤ p - 1
        · have HR := hid (show r = 0 by rw [HQ.out, decide_eq_true hl]; rfl)
          clear HQ
          go_enter Try.func56, Try.ntmps56
          go_wp2_with (go_at_call 52; refine (isBetween_any _ _ _ _).mono ?_; rintro e w' ⟨rfl, rfl⟩; rw [HBV.out])
          refine (HPR.out _).mono ?_
          rintro e w' ⟨rfl, rfl⟩
          go_wp2_with fail
          refine HW.out.mono ?_
          rintro e w1 ⟨rfl, g1⟩
          have G1 := hid g1
          clear g1
          go_wp2_with fail
          go_ret
          exact ⟨ret_int HR.out.symm, G1.out⟩
        · have HR := hid (show r = 1 by rw [HQ.out, decide_eq_false hl]; rfl)
          have hl' : p - 1 < (n : Int) := by omega
          clear HQ
          go_enter Try.func56, Try.ntmps56
          go_wp2_with (go_at_call 52; refine (isBetween_any _ _ _ _).mono ?_; rintro e w' ⟨rfl, rfl⟩; rw [HBV.out])
          refine (HPR.out _).mono ?_
          rintro e w' ⟨rfl, rfl⟩
          go_wp2_with fail
          refine HW.out.mono ?_
          rintro e w1 ⟨rfl, g1⟩
          have G1 := hid g1
          clear g1
          go_wp2_with fail
          go_ret
          exact ⟨ret_int HR.out.symm, G1.out⟩
theorem wsum_facts {k : Nat} {x s t : Int} (hk : k < 8) (h0 : 0 ≤ x) (h1 : x ≤ 255) (s0 : 0 ≤ s) (s1 : s ≤ 2040) (t0 : 0 ≤ t) (t1 : t ≤ 16320) :
    IntKind.i64.wrap x = x ∧ IntKind.i64.wrap (s + x) = s + x ∧ IntKind.i64.wrap ((k : Int) + 1) = (k : Int) + 1 ∧ IntKind.i64.wrap (((k : Int) + 1) * x) = ((k : Int) + 1) * x ∧ IntKind.i64.wrap (t + ((k : Int) + 1) * x) = t + ((k : Int) + 1) * x := by
  have := prod_bd hk h0 h1
  exact ⟨IntWalk.i64_in _ (by omega), IntWalk.i64_in _ (by omega), IntWalk.i64_in _ (by omega), IntWalk.i64_in _ (by omega), IntWalk.i64_in _ (by omega)⟩
/-- Nothing but draws has been made. -/
def Drawn5 (w wr : World) : Prop := ∃ m, wr = w.drewN m
theorem Drawn5.gr {w wr : World} (h : Drawn5 w wr) : Gr w wr := by
  obtain ⟨m, rfl⟩ := h; exact (Gr.refl w).drewN m
set_option maxRecDepth 100000 in
set_option maxHeartbeats 1000000 in
theorem l05Syndromes_any (p : Int) (p3 : 3 ≤ p) (p37 : p ≤ 37) (a : Option Addr) (n cap : Nat) (xs : List Int) (hn : n = xs.length) (h8 : n ≤ 8) (hf : Fits .u8 xs) (w : World) (hs : SliceOf .u8 w a xs) :
    Calls Try.prog 55 #[.int .i64 p, .slice a n cap] w fun e w' => e = .returned (.tuple #[.int .i64 (synS p xs), .int .i64 (synW p xs)]) ∧ Drawn5 w w' := by
  have S := hid hs
  have HN := hid hn
  have HF := hid hf
  obtain ⟨sb0, sb1⟩ := sumL_bd (xs := xs) hf.getu n
  obtain ⟨wb0, wb1⟩ := wsumL_bd (xs := xs) hf.getu n h8
  have HA := hid (show synS p xs = sumL xs n % p by unfold synS; rw [← hn])
  have HB := hid (show synW p xs = wsumL xs n % p by unfold synW; rw [← hn])
  have HSB := hid (sumL_bd (xs := xs) hf.getu)
  have HWB := hid (wsumL_bd (xs := xs) hf.getu)
  have HT := hid (fun a (h0 : -1000000 ≤ a) (h1 : a ≤ 1000000) => (mod_facts (a := a) p3 p37 h0 h1).1)
  have hp0 : p ≠ 0 := by omega
  generalize synS p xs = rs at *
  generalize synW p xs = rw_ at *
  clear hs hn hf sb0 sb1 wb0 wb1
  go_enter Try.func55, Try.ntmps55
  go_wp2
  go_loop [6, 7, 8] (fun s t i => ∃ k : Nat, k ≤ n ∧ i = .int .i64 k ∧ s = .int .i64 (sumL xs k) ∧ t = .int .i64 (wsumL xs k)) (fun _ _ i => n - (intOf i).toNat)
  case atStart => exact ⟨0, Nat.zero_le _, rfl, rfl, rfl⟩
  case round =>
    obtain ⟨k, hk, rfl, rfl, rfl⟩ := hrel
    by_cases hlt : k < n
    · obtain ⟨b, off, rfl, hc⟩ := S.out k (by rw [← HN.out]; exact hlt)
      obtain ⟨hx0, hx1⟩ := HF.out.getu k
      obtain ⟨s0, s1⟩ := HSB.out k
      obtain ⟨t0, t1⟩ := HWB.out k (by omega)
      have H1 := hid (show sumL xs (k + 1) = sumL xs k + xs.getD k 0 from rfl)
      have H2 := hid (show wsumL xs (k + 1) = wsumL xs k + ((k : Int) + 1) * xs.getD k 0 from rfl)
      generalize xs.getD k 0 = x at *
      generalize sumL xs k = s at *
      generalize wsumL xs k = t at *
      obtain ⟨e1, e2, e3, e4, e5⟩ := wsum_facts (s := s) (t := t) (show k < 8 by omega) hx0 hx1 s0 (by omega) t0 (by omega)
      go_wp2
      go_round
      case rel => exact ⟨k + 1, by omega, by go_num, by rw [H1.out], by rw [H2.out]⟩
      case measure => simp [intOf] <;> omega
    · obtain rfl : k = n := by omega
      obtain ⟨s0, s1⟩ := HSB.out k
      obtain ⟨t0, t1⟩ := HWB.out k (by omega)
      have m1 := HT.out (sumL xs k) (by omega) (by omega)
      have m2 := HT.out (wsumL xs k) (by omega) (by omega)
      generalize sumL xs k = s at *
      generalize wsumL xs k = t at *
      go_wp2_with fail
      go_quiet (fail)
      go_wp2_with fail
      go_ret2
      exact ⟨by rw [HA.out, HB.out]; rfl, ⟨_, rfl⟩⟩
end Go.Proofs.Ytojdbeebgllhhaa
