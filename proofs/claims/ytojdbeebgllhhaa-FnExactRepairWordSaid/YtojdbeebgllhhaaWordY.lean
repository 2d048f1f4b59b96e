/- The syndromes of a word: a loop of jumps. -/
import Derived.Test.YtojdbeebgllhhaaWord3
import Derived.ScopeJumps
namespace Go.Proofs.Ytojdbeebgllhhaa
open Go.RowKit
theorem synS_next {p s x : Int} : (s % p + x) % p = (s + x) % p := by rw [Int.emod_add_emod]
/-- What holds at each jump. -/
def SynJ (a : Option Addr) (n cap : Nat) (p : Int) (xs : List Int) (w : World) (a' : Act) (w' : World) : Prop :=
  w' = w ∧ ∃ k : Nat, k ≤ n ∧ ∃ (u9 u10 u11 u12 u13 u14 u15 u16 u17 u18 u19 u20 u21 u22 u23 u24 u25 u26 u27 u28 u29 u30 u31 u32 : Value), a' = { tmps := #[.slice a n cap, .int .i64 p, undef, undef, .int .i64 0, .int .i64 0, .int .i64 (sumL xs k % p), .int .i64 (wsumL xs k % p), .int .i64 k, u9, u10, u11, u12, u13, u14, u15, u16, u17, u18, u19, u20, u21, u22, u23, u24, u25, u26, u27, u28, u29, u30, u31, u32, undef, undef], defers := [] }
theorem SynJ_mk {a : Option Addr} {n cap : Nat} {p : Int} {xs : List Int} {w : World} {k : Nat} (hk : k ≤ n) {s t i : Int} (hs : sumL xs k % p = s) (ht : wsumL xs k % p = t) (hi : i = (k : Int)) {u9 u10 u11 u12 u13 u14 u15 u16 u17 u18 u19 u20 u21 u22 u23 u24 u25 u26 u27 u28 u29 u30 u31 u32 : Value} :
    SynJ a n cap p xs w { tmps := #[.slice a n cap, .int .i64 p, undef, undef, .int .i64 0, .int .i64 0, .int .i64 s, .int .i64 t, .int .i64 i, u9, u10, u11, u12, u13, u14, u15, u16, u17, u18, u19, u20, u21, u22, u23, u24, u25, u26, u27, u28, u29, u30, u31, u32, undef, undef], defers := [] } w := by
  subst hs ht hi
  exact ⟨rfl, k, hk, u9, u10, u11, u12, u13, u14, u15, u16, u17, u18, u19, u20, u21, u22, u23, u24, u25, u26, u27, u28, u29, u30, u31, u32, rfl⟩
def synMu (n : Nat) (a' : Act) (_ : World) : Nat := n - (intOf (a'.tmps.getD 8 undef)).toNat
set_option maxHeartbeats 800000 in
set_option maxRecDepth 100000 in
theorem syndromes_any (p : Int) (p3 : 3 ≤ p) (p37 : p ≤ 37) (a : Option Addr) (n cap : Nat) (xs : List Int) (hn : n = xs.length) (h8 : n ≤ 8) (hf : Fits .u8 xs) (w : World) (hs : SliceOf .u8 w a xs) :
    Calls Try.prog 57 #[.slice a n cap, .int .i64 p] w fun e w' => e = .returned (.tuple #[.int .i64 (synS p xs), .int .i64 (synW p xs)]) ∧ w' = w := by
  have S := hid hs
  have HN := hid hn
  have HF := hid hf
  have HSB := hid (fun k => mod_bd (a := sumL xs k) p3 p37)
  have HWB := hid (fun k => mod_bd (a := wsumL xs k) p3 p37)
  have HMD := hid (fun a V h0 h1 => modulo_any a p p3 p37 h0 h1 V)
  have HA := hid (show synS p xs = sumL xs n % p by unfold synS; rw [← hn])
  have HB := hid (show synW p xs = wsumL xs n % p by unfold synW; rw [← hn])
  generalize synS p xs = rs at *
  generalize synW p xs = rw_ at *
  clear hs hn hf
  go_enter Try.func57, Try.ntmps57
  go_wp2_with fail
  refine wp_scope_jumps 0 (SynJ a n cap p xs w) (synMu n) rfl ?_ ?_
  · go_wp2_with fail
    go_step3
    have HS0 := hid (show sumL xs 0 % p = 0 from Int.zero_emod p)
    have HW0 := hid (show wsumL xs 0 % p = 0 from Int.zero_emod p)
    obtain ⟨k, hk0⟩ : ∃ k : Nat, k = 0 := ⟨0, rfl⟩
    by_cases hlt : 0 < n
    · obtain ⟨b, off, rfl, hc⟩ := S.out 0 (by rw [← HN.out]; exact hlt)
      obtain ⟨hx0, hx1⟩ := HF.out.getu 0
      rw [Nat.add_zero] at hc
      have H1 := hid (show sumL xs 1 % p = (0 + xs.getD 0 0) % p by rw [show sumL xs 1 = sumL xs 0 + xs.getD 0 0 from rfl, show sumL xs 0 = 0 from rfl])
      have H2 := hid (show wsumL xs 1 % p = (0 + ((0 : Nat) + 1 : Int) * xs.getD 0 0) % p by rw [show wsumL xs 1 = wsumL xs 0 + ((0 : Nat) + 1 : Int) * xs.getD 0 0 from rfl, show wsumL xs 0 = 0 from rfl])
      generalize xs.getD 0 0 = x at *
      have e1 : IntKind.i64.wrap x = x := IntWalk.i64_in _ (by omega)
      have b1 : -1000000 ≤ x := by omega
      have b1' : x ≤ 1000000 := by omega
      rw [Int.zero_add] at H1
      rw [Int.zero_add, show ((0 : Nat) + 1 : Int) * x = x by omega] at H2
      go_wp2_with fail
      refine (HMD.out _ _ b1 b1').mono ?_
      rintro e w' ⟨rfl, rfl⟩
      go_wp2_with fail
      refine (HMD.out _ _ b1 b1').mono ?_
      rintro e w' ⟨rfl, rfl⟩
      go_wp2_with fail
      go_step3
      exact ⟨rfl, SynJ_mk (k := 1) hlt H1.out H2.out rfl⟩
    · have hz : n = 0 := by omega
      rw [hz] at HA HB
      subst hz
      go_wp2_with fail
      simp only [Exit.jump]
      go_ret2
      exact ⟨by rw [HA.out, HB.out, HS0.out, HW0.out]; rfl, rfl⟩
  · rintro a' w' hJ
    obtain ⟨rfl, k, hk, u9, u10, u11, u12, u13, u14, u15, u16, u17, u18, u19, u20, u21, u22, u23, u24, u25, u26, u27, u28, u29, u30, u31, u32, rfl⟩ := hJ
    by_cases hlt : k < n
    · obtain ⟨b, off, rfl, hc⟩ := S.out k (by rw [← HN.out]; exact hlt)
      obtain ⟨hx0, hx1⟩ := HF.out.getu k
      have H1 := hid (show sumL xs (k + 1) % p = (sumL xs k % p + xs.getD k 0) % p by rw [synS_next]; rfl)
      have H2 := hid (show wsumL xs (k + 1) % p = (wsumL xs k % p + ((k : Int) + 1) * xs.getD k 0) % p by rw [synS_next]; rfl)
      obtain ⟨s0, s1⟩ := HSB.out k
      obtain ⟨t0, t1⟩ := HWB.out k
      generalize xs.getD k 0 = x at *
      generalize sumL xs k % p = s at *
      generalize wsumL xs k % p = t at *
      obtain ⟨e1, e2, e3, e4, e5⟩ := wsum_facts (s := s) (t := t) (show k < 8 by omega) hx0 hx1 s0 (by omega) t0 (by omega)
      obtain ⟨q0, q1⟩ := prod_bd (show k < 8 by omega) hx0 hx1
      have b1 : -1000000 ≤ s + x := by omega
      have b1' : s + x ≤ 1000000 := by omega
      have b2 : -1000000 ≤ t + ((k : Int) + 1) * x := by omega
      have b2' : t + ((k : Int) + 1) * x ≤ 1000000 := by omega
      clear q0 q1
      go_wp2_with fail
      refine (HMD.out _ _ b1 b1').mono ?_
      rintro e w' ⟨rfl, rfl⟩
      go_wp2_with fail
      refine (HMD.out _ _ b2 b2').mono ?_
      rintro e w' ⟨rfl, rfl⟩
      go_wp2_with fail
      go_step3
      refine ⟨rfl, SynJ_mk (k := k + 1) hlt H1.out H2.out (by omega), ?_⟩
      simp [synMu, intOf]
      omega
    · obtain rfl : k = n := by omega
      have HA2 := hid HA.out.symm
      have HB2 := hid HB.out.symm
      rw [HA2.out, HB2.out]
      go_wp2_with fail
      simp only [Exit.jump]
      go_ret2
      exact ⟨rfl, rfl⟩
end Go.Proofs.Ytojdbeebgllhhaa
