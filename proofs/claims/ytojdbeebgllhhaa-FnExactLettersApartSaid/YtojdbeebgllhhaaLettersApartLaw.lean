/- LettersApart: the law's walk. -/
import Derived.Test.YtojdbeebgllhhaaWord6
import Derived.Test.YtojdbeebgllhhaaSlicesW
namespace Go.Proofs.Ytojdbeebgllhhaa
open Go.RowKit
set_option maxRecDepth 100000 in
set_option maxHeartbeats 2000000 in
set_option linter.unusedVariables false in
theorem FnExactLettersApart_walk (a0 : Option Addr) (cap0 : Nat) (xs0 : List Int) (hm0 : xs0.length ≤ maxLen) (hf0 : Fits .u8 xs0) (a1 : Option Addr) (cap1 : Nat) (xs1 : List Int) (hm1 : xs1.length ≤ maxLen) (hf1 : Fits .u8 xs1) (w : World) (hs0 : SliceOf .u8 w a0 xs0) (hs1 : SliceOf .u8 w a1 xs1) :
    Calls Try.prog 6 #[.slice a0 xs0.length cap0, .slice a1 xs1.length cap1] w fun e w' => e = .returned (.bool true) ∧ Gr w w' := by
  unfold maxLen at hm0
  unfold maxLen at hm1
  by_cases hn0 : xs0.length ≤ 1048576
  · skip
    by_cases hn1 : xs1.length ≤ 1048576
    · skip
      have hsp := fun b0 b1 => spec_LettersApart_any b0 xs0 hn0 hf0 b1 xs1 hn1 hf1
      have him := fun b0 b1 => impl_LettersApart_any b0 xs0 hn0 hf0 b1 xs1 hn1 hf1
      have hto0 := fun a0 cap => toWord_own a0 cap xs0 hn0
      have heq0 := fun a b ca cb => eqWord_own a b ca cb xs0 hn0
      have hto1 := fun a0 cap => toWord_own a0 cap xs1 hn1
      have heq1 := fun a b ca cb => eqWord_own a b ca cb xs1 hn1
      generalize apartV xs0 xs1 = r0 at *
      generalize apartC xs0 xs1 = r1 at *
      have HSP := hid hsp
      have HIM := hid him
      clear hsp him
      have HTO0 := hid hto0
      have HEQ0 := hid heq0
      have S0 := hid hs0
      clear hto0 heq0 hs0 hm0 hf0
      have hxl0 : xs0.length ≤ maxLen := by unfold maxLen; omega
      have HXL0 := hid hxl0
      clear hxl0
      have HTO1 := hid hto1
      have HEQ1 := hid heq1
      have S1 := hid hs1
      clear hto1 heq1 hs1 hm1 hf1
      have hxl1 : xs1.length ≤ maxLen := by unfold maxLen; omega
      have HXL1 := hid hxl1
      clear hxl1
      obtain ⟨n0, hxn0⟩ : ∃ n, n = xs0.length := ⟨_, rfl⟩
      rw [← hxn0] at hn0 HSP HIM HTO0 HEQ0 ⊢
      have HXN0 := hid hxn0
      clear hxn0
      obtain ⟨n1, hxn1⟩ : ∃ n, n = xs1.length := ⟨_, rfl⟩
      rw [← hxn1] at hn1 HSP HIM HTO1 HEQ1 ⊢
      have HXN1 := hid hxn1
      clear hxn1
      have gr := hid (Gr.refl w)
      have Z0 := S0
      have Z1 := S1
      go_enter Try.func6, Try.ntmps6
      go_wp2_with fail
      refine (HTO0.out _ _ _ S0.out).mono ?_
      rintro e W1 ⟨rfl, h1, g1⟩
      replace gr := hid (gr.out.trans g1)
      replace S0 := hid (S0.out.gr g1)
      replace S1 := hid (S1.out.gr g1)
      have Bs0 := hid h1
      have gz1 := hid g1.size
      have ltBs0 := hid (lt_of_heap h1)
      clear h1 g1
      go_wp2_with fail
      refine (HTO1.out _ _ _ S1.out).mono ?_
      rintro e W2 ⟨rfl, h2, g2⟩
      replace gr := hid (gr.out.trans g2)
      replace S0 := hid (S0.out.gr g2)
      replace S1 := hid (S1.out.gr g2)
      replace Bs0 := hid (g2.heap Bs0.out)
      have Bs1 := hid h2
      have gz2 := hid g2.size
      have ltBs1 := hid (lt_of_heap h2)
      clear h2 g2
      go_wp2_with fail
      refine (HSP.out _ _ _ (sliceOf_block Bs0.out) (sliceOf_block Bs1.out)).mono ?_
      rintro e W3 ⟨rfl, g3⟩
      replace gr := hid (gr.out.trans g3)
      replace S0 := hid (S0.out.gr g3)
      replace S1 := hid (S1.out.gr g3)
      replace Bs0 := hid (g3.heap Bs0.out)
      replace Bs1 := hid (g3.heap Bs1.out)
      clear g3
      clear Bs0
      clear Bs1
      go_wp2_with fail
      refine (HTO0.out _ _ _ S0.out).mono ?_
      rintro e W4 ⟨rfl, h4, g4⟩
      replace gr := hid (gr.out.trans g4)
      replace S0 := hid (S0.out.gr g4)
      replace S1 := hid (S1.out.gr g4)
      have Bx0 := hid h4
      have gz4 := hid g4.size
      have ltBx0 := hid (lt_of_heap h4)
      clear h4 g4
      go_wp2_with fail
      refine (HTO1.out _ _ _ S1.out).mono ?_
      rintro e W5 ⟨rfl, h5, g5⟩
      replace gr := hid (gr.out.trans g5)
      replace S0 := hid (S0.out.gr g5)
      replace S1 := hid (S1.out.gr g5)
      replace Bx0 := hid (g5.heap Bx0.out)
      have Bx1 := hid h5
      have gz5 := hid g5.size
      have ltBx1 := hid (lt_of_heap h5)
      clear h5 g5
      go_wp2_with fail
      refine (HIM.out _ _ _ (sliceOf_block Bx0.out) (sliceOf_block Bx1.out)).mono ?_
      rintro e W6 ⟨rfl, g6⟩
      replace gr := hid (gr.out.trans g6)
      replace S0 := hid (S0.out.gr g6)
      replace S1 := hid (S1.out.gr g6)
      replace Bx0 := hid (g6.heap Bx0.out)
      replace Bx1 := hid (g6.heap Bx1.out)
      clear g6
      go_wp2_with fail
      refine (HTO0.out _ _ _ S0.out).mono ?_
      rintro e W7 ⟨rfl, h7, g7⟩
      replace gr := hid (gr.out.trans g7)
      replace S0 := hid (S0.out.gr g7)
      replace S1 := hid (S1.out.gr g7)
      replace Bx0 := hid (g7.heap Bx0.out)
      replace Bx1 := hid (g7.heap Bx1.out)
      have Bt := hid h7
      have gz7 := hid g7.size
      have ltBt := hid (lt_of_heap h7)
      clear h7 g7
      go_wp2_with fail
      refine (HEQ0.out _ _ _ _ _ (sliceOf_block Bx0.out) (sliceOf_block Bt.out)).mono ?_
      rintro e W8 ⟨rfl, g8⟩
      replace gr := hid (gr.out.trans g8)
      replace S0 := hid (S0.out.gr g8)
      replace S1 := hid (S1.out.gr g8)
      replace Bx0 := hid (g8.heap Bx0.out)
      replace Bx1 := hid (g8.heap Bx1.out)
      replace Bt := hid (g8.heap Bt.out)
      clear Bt
      clear g8
      go_wp2_with fail
      refine (HTO1.out _ _ _ S1.out).mono ?_
      rintro e W9 ⟨rfl, h9, g9⟩
      replace gr := hid (gr.out.trans g9)
      replace S0 := hid (S0.out.gr g9)
      replace S1 := hid (S1.out.gr g9)
      replace Bx0 := hid (g9.heap Bx0.out)
      replace Bx1 := hid (g9.heap Bx1.out)
      have Bt := hid h9
      have gz9 := hid g9.size
      have ltBt := hid (lt_of_heap h9)
      clear h9 g9
      go_wp2_with fail
      refine (HEQ1.out _ _ _ _ _ (sliceOf_block Bx1.out) (sliceOf_block Bt.out)).mono ?_
      rintro e W10 ⟨rfl, g10⟩
      replace gr := hid (gr.out.trans g10)
      replace S0 := hid (S0.out.gr g10)
      replace S1 := hid (S1.out.gr g10)
      replace Bx0 := hid (g10.heap Bx0.out)
      replace Bx1 := hid (g10.heap Bx1.out)
      replace Bt := hid (g10.heap Bt.out)
      clear Bt
      clear g10
      go_wp2_with fail
      go_ret
      exact ⟨rfl, gr.out⟩
    · have hn' : 1048576 < xs1.length := by omega
      clear hn1 hs0 hf0 hs1 hf1
      generalize xs0.length = n0 at *
      generalize xs1.length = n1 at *
      go_enter Try.func6, Try.ntmps6
      go_wp2_with fail
      go_ret
      exact ⟨rfl, Gr.refl _⟩
  · have hn' : 1048576 < xs0.length := by omega
    clear hn0 hs0 hf0 hs1 hf1
    generalize xs0.length = n0 at *
    generalize xs1.length = n1 at *
    go_enter Try.func6, Try.ntmps6
    go_wp2_with fail
    go_ret
    exact ⟨rfl, Gr.refl _⟩
end Go.Proofs.Ytojdbeebgllhhaa
