/- SyndromesOf, IsChecked: the functions. -/
import Derived.Test.YtojdbeebgllhhaaWordY
import Derived.OwnWalk
namespace Go.Proofs.Ytojdbeebgllhhaa
open Go.RowKit
theorem syn_no {p : Int} {xs : List Int} (h : ¬ synC p xs = 0) : synA p xs = 0 ∧ synB p xs = 0 := by unfold synA synB; rw [if_neg h, if_neg h]; exact ⟨rfl, rfl⟩
theorem syn_yes {p : Int} {xs : List Int} (h : synC p xs = 0) : synA p xs = synS p xs ∧ synB p xs = synW p xs := by unfold synA synB; rw [if_pos h, if_pos h]; exact ⟨rfl, rfl⟩
set_option maxRecDepth 100000 in
set_option maxHeartbeats 1000000 in
theorem spec_SyndromesOf_any (p : Int) (hp : (Lit.int .i64 p).wf = true) (a : Option Addr) (xs : List Int) (hm : xs.length ≤ 1048576) (hf : Fits .u8 xs) (w : World) (hs : SliceOf .u8 w a xs) :
    Calls Try.prog 19 #[.int .i64 p, .slice a xs.length xs.length] w fun e w' => e = .returned (.tuple #[.int .i64 (synA p xs), .int .i64 (synB p xs), .int .i64 (synC p xs)]) ∧ Gr w w' := by
  have HC := hid (l05Checked_any p a _ xs.length xs rfl hm hf w hs)
  by_cases hc : synC p xs = 0
  · obtain ⟨p3, p37, -, ho, hlp⟩ := syn_inv hc
    obtain ⟨l1, l8⟩ := ofB_len ho
    have HSY := hid (fun V (g : Gr w V) => l05Syndromes_any p p3 p37 a _ xs.length xs rfl l8 hf V (hs.gr g))
    obtain ⟨e1, e2⟩ := syn_yes hc
    rw [hc] at HC
    rw [e1, e2, hc]
    clear hs hf hp ho hlp hc e1 e2
    generalize synS p xs = s at *
    generalize synW p xs = t at *
    generalize xs.length = n at *
    go_enter Try.func19, Try.ntmps19
    go_wp2_with fail
    refine HC.out.mono ?_
    rintro e w1 ⟨rfl, g1⟩
    have G1 := hid g1
    clear g1
    go_wp2_with fail
    refine (HSY.out _ G1.out).mono ?_
    rintro e ws ⟨rfl, ds⟩
    replace G1 := hid (G1.out.trans ds.gr)
    clear ds
    go_wp2_with fail
    go_ret3
    exact ⟨rfl, G1.out⟩
  · obtain ⟨e1, e2⟩ := syn_no hc
    rw [e1, e2]
    generalize synC p xs = c at *
    clear hs hf hp e1 e2
    generalize xs.length = n at *
    go_enter Try.func19, Try.ntmps19
    go_wp2_with fail
    refine HC.out.mono ?_
    rintro e w1 ⟨rfl, g1⟩
    have G1 := hid g1
    clear g1
    go_wp2_with fail
    go_ret3
    exact ⟨rfl, G1.out⟩
set_option maxRecDepth 100000 in
set_option maxHeartbeats 1000000 in
theorem impl_SyndromesOf_any (p : Int) (hp : (Lit.int .i64 p).wf = true) (a : Option Addr) (xs : List Int) (hm : xs.length ≤ 1048576) (hf : Fits .u8 xs) (w : World) (hs : SliceOf .u8 w a xs) :
    Calls Try.prog 20 #[.int .i64 p, .slice a xs.length xs.length] w fun e w' => e = .returned (.tuple #[.int .i64 (synA p xs), .int .i64 (synB p xs), .int .i64 (synC p xs)]) ∧ Gr w w' := by
  have HC := hid (checkSyndromes_any p a _ xs.length xs rfl hm hf w hs)
  by_cases hc : synC p xs = 0
  · obtain ⟨p3, p37, -, ho, hlp⟩ := syn_inv hc
    obtain ⟨l1, l8⟩ := ofB_len ho
    have HSY := hid (fun V (g : Gr w V) => syndromes_any p p3 p37 a _ xs.length xs rfl l8 hf V (hs.gr g))
    obtain ⟨e1, e2⟩ := syn_yes hc
    rw [hc] at HC
    rw [e1, e2, hc]
    clear hs hf hp ho hlp hc e1 e2
    generalize synS p xs = s at *
    generalize synW p xs = t at *
    generalize xs.length = n at *
    go_enter Try.func20, Try.ntmps20
    go_wp2_with fail
    refine HC.out.mono ?_
    rintro e w1 ⟨rfl, g1⟩
    have G1 := hid g1
    clear g1
    go_wp2_with fail
    refine (HSY.out _ G1.out).mono ?_
    rintro e ws ⟨rfl, rfl⟩
    go_wp2_with fail
    go_ret3
    exact ⟨rfl, G1.out⟩
  · obtain ⟨e1, e2⟩ := syn_no hc
    rw [e1, e2]
    generalize synC p xs = c at *
    clear hs hf hp e1 e2
    generalize xs.length = n at *
    go_enter Try.func20, Try.ntmps20
    go_wp2_with fail
    refine HC.out.mono ?_
    rintro e w1 ⟨rfl, g1⟩
    have G1 := hid g1
    clear g1
    go_wp2_with fail
    go_ret3
    exact ⟨rfl, G1.out⟩

set_option maxRecDepth 100000 in
set_option maxHeartbeats 1000000 in
theorem spec_IsChecked_any (p : Int) (hp : (Lit.int .i64 p).wf = true) (a : Option Addr) (xs : List Int) (hm : xs.length ≤ 1048576) (hf : Fits .u8 xs) (w : World) (hs : SliceOf .u8 w a xs) :
    Calls Try.prog 21 #[.int .i64 p, .slice a xs.length xs.length] w fun e w' => e = .returned (.tuple #[.bool (checkedB p xs), .int .i64 (synC p xs)]) ∧ Gr w w' := by
  have HC := hid (spec_SyndromesOf_any p hp a xs hm hf w hs)
  have HB := hid (show checkedB p xs = (synC p xs == 0 && (synA p xs == 0 && synB p xs == 0)) from rfl)
  generalize checkedB p xs = b at *
  generalize synA p xs = s at *
  generalize synB p xs = t at *
  generalize synC p xs = c at *
  clear hs hf hp
  generalize xs.length = n at *
  by_cases hc : c = 0
  · subst hc
    by_cases hs0 : s = 0
    · subst hs0
      have HB2 := hid (show b = (t == 0) by rw [HB.out]; rfl)
      clear HB
      go_enter Try.func21, Try.ntmps21
      go_wp2_with fail
      refine HC.out.mono ?_
      rintro e w1 ⟨rfl, g1⟩
      have G1 := hid g1
      clear g1
      go_wp2_with fail
      go_ret2
      exact ⟨by rw [HB2.out]; rfl, G1.out⟩
    · have t1 : (s == 0) = false := by simpa using hs0
      have HB2 := hid (show b = false by rw [HB.out, t1]; rfl)
      clear HB
      go_enter Try.func21, Try.ntmps21
      go_wp2_with fail
      refine HC.out.mono ?_
      rintro e w1 ⟨rfl, g1⟩
      have G1 := hid g1
      clear g1
      go_wp2_with fail
      go_ret2
      exact ⟨by rw [HB2.out]; rfl, G1.out⟩
  · have t1 : (c == 0) = false := by simpa using hc
    have HB2 := hid (show b = false by rw [HB.out, t1]; rfl)
    clear HB
    go_enter Try.func21, Try.ntmps21
    go_wp2_with fail
    refine HC.out.mono ?_
    rintro e w1 ⟨rfl, g1⟩
    have G1 := hid g1
    clear g1
    go_wp2_with fail
    go_ret2
    exact ⟨by rw [HB2.out]; rfl, G1.out⟩

set_option maxRecDepth 100000 in
set_option maxHeartbeats 1000000 in
theorem impl_IsChecked_any (p : Int) (hp : (Lit.int .i64 p).wf = true) (a : Option Addr) (xs : List Int) (hm : xs.length ≤ 1048576) (hf : Fits .u8 xs) (w : World) (hs : SliceOf .u8 w a xs) :
    Calls Try.prog 22 #[.int .i64 p, .slice a xs.length xs.length] w fun e w' => e = .returned (.tuple #[.bool (checkedB p xs), .int .i64 (synC p xs)]) ∧ Gr w w' := by
  have HC := hid (impl_SyndromesOf_any p hp a xs hm hf w hs)
  have HB := hid (show checkedB p xs = (synC p xs == 0 && (synA p xs == 0 && synB p xs == 0)) from rfl)
  generalize checkedB p xs = b at *
  generalize synA p xs = s at *
  generalize synB p xs = t at *
  generalize synC p xs = c at *
  clear hs hf hp
  generalize xs.length = n at *
  by_cases hc : c = 0
  · subst hc
    by_cases hs0 : s = 0
    · subst hs0
      have HB2 := hid (show b = (t == 0) by rw [HB.out]; rfl)
      clear HB
      go_enter Try.func22, Try.ntmps22
      go_wp2_with fail
      refine HC.out.mono ?_
      rintro e w1 ⟨rfl, g1⟩
      have G1 := hid g1
      clear g1
      go_wp2_with fail
      go_ret2
      exact ⟨by rw [HB2.out]; rfl, G1.out⟩
    · have t1 : (s == 0) = false := by simpa using hs0
      have HB2 := hid (show b = false by rw [HB.out, t1]; rfl)
      clear HB
      go_enter Try.func22, Try.ntmps22
      go_wp2_with fail
      refine HC.out.mono ?_
      rintro e w1 ⟨rfl, g1⟩
      have G1 := hid g1
      clear g1
      go_wp2_with fail
      go_ret2
      exact ⟨by rw [HB2.out]; rfl, G1.out⟩
  · have t1 : (c == 0) = false := by simpa using hc
    have HB2 := hid (show b = false by rw [HB.out, t1]; rfl)
    clear HB
    go_enter Try.func22, Try.ntmps22
    go_wp2_with fail
    refine HC.out.mono ?_
    rintro e w1 ⟨rfl, g1⟩
    have G1 := hid g1
    clear g1
    go_wp2_with fail
    go_ret2
    exact ⟨by rw [HB2.out]; rfl, G1.out⟩
end Go.Proofs.Ytojdbeebgllhhaa
