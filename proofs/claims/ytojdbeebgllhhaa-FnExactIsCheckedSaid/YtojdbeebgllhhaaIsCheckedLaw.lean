/- IsChecked: the law's walk. -/
import Derived.Test.YtojdbeebgllhhaaWordZ
import Derived.Test.YtojdbeebgllhhaaSlicesW
namespace Go.Proofs.Ytojdbeebgllhhaa
open Go.RowKit
set_option maxRecDepth 100000 in
set_option maxHeartbeats 2000000 in
set_option linter.unusedVariables false in
theorem FnExactIsChecked_walk (c0 : Int) (v0 : (Lit.int .i64 c0).wf = true) (a1 : Option Addr) (cap1 : Nat) (xs1 : List Int) (hm1 : xs1.length ≤ maxLen) (hf1 : Fits .u8 xs1) (w : World) (hs1 : SliceOf .u8 w a1 xs1) :
    Calls Try.prog 5 #[.int .i64 c0, .slice a1 xs1.length cap1] w fun e w' => e = .returned (.bool true) ∧ Gr w w' := by
  unfold maxLen at hm1
  by_cases hn1 : xs1.length ≤ 1048576
  · skip
    have hsp := fun b1 => spec_IsChecked_any c0 v0 b1 xs1 hn1 hf1
    have him := fun b1 => impl_IsChecked_any c0 v0 b1 xs1 hn1 hf1
    have hto1 := fun a0 cap => toWord_own a0 cap xs1 hn1
    have heq1 := fun a b ca cb => eqWord_own a b ca cb xs1 hn1
    generalize checkedB c0 xs1 = r0 at *
    generalize synC c0 xs1 = r1 at *
    have HSP := hid hsp
    have HIM := hid him
    clear hsp him
    have HTO1 := hid hto1
    have HEQ1 := hid heq1
    have S1 := hid hs1
    clear hto1 heq1 hs1 hm1 hf1
    have hxl1 : xs1.length ≤ maxLen := by unfold maxLen; omega
    have HXL1 := hid hxl1
    clear hxl1
    clear v0
    obtain ⟨n1, hxn1⟩ : ∃ n, n = xs1.length := ⟨_, rfl⟩
    rw [← hxn1] at hn1 HSP HIM HTO1 HEQ1 ⊢
    have HXN1 := hid hxn1
    clear hxn1
    have gr := hid (Gr.refl w)
    have Z1 := S1
    go_enter Try.func5, Try.ntmps5
    go_wp2_with fail
    refine (HTO1.out _ _ _ S1.out).mono ?_
    rintro e W1 ⟨rfl, h1, g1⟩
    replace gr := hid (gr.out.trans g1)
    replace S1 := hid (S1.out.gr g1)
    have Bs1 := hid h1
    have gz1 := hid g1.size
    have ltBs1 := hid (lt_of_heap h1)
    clear h1 g1
    go_wp2_with fail
    refine (HSP.out _ _ (sliceOf_block Bs1.out)).mono ?_
    rintro e W2 ⟨rfl, g2⟩
    replace gr := hid (gr.out.trans g2)
    replace S1 := hid (S1.out.gr g2)
    replace Bs1 := hid (g2.heap Bs1.out)
    clear g2
    clear Bs1
    go_wp2_with fail
    refine (HTO1.out _ _ _ S1.out).mono ?_
    rintro e W3 ⟨rfl, h3, g3⟩
    replace gr := hid (gr.out.trans g3)
    replace S1 := hid (S1.out.gr g3)
    have Bx1 := hid h3
    have gz3 := hid g3.size
    have ltBx1 := hid (lt_of_heap h3)
    clear h3 g3
    go_wp2_with fail
    refine (HIM.out _ _ (sliceOf_block Bx1.out)).mono ?_
    rintro e W4 ⟨rfl, g4⟩
    replace gr := hid (gr.out.trans g4)
    replace S1 := hid (S1.out.gr g4)
    replace Bx1 := hid (g4.heap Bx1.out)
    clear g4
    go_wp2_with fail
    refine (HTO1.out _ _ _ S1.out).mono ?_
    rintro e W5 ⟨rfl, h5, g5⟩
    replace gr := hid (gr.out.trans g5)
    replace S1 := hid (S1.out.gr g5)
    replace Bx1 := hid (g5.heap Bx1.out)
    have Bt := hid h5
    have gz5 := hid g5.size
    have ltBt := hid (lt_of_heap h5)
    clear h5 g5
    go_wp2_with fail
    refine (HEQ1.out _ _ _ _ _ (sliceOf_block Bx1.out) (sliceOf_block Bt.out)).mono ?_
    rintro e W6 ⟨rfl, g6⟩
    replace gr := hid (gr.out.trans g6)
    replace S1 := hid (S1.out.gr g6)
    replace Bx1 := hid (g6.heap Bx1.out)
    replace Bt := hid (g6.heap Bt.out)
    clear Bt
    clear g6
    go_wp2_with fail
    go_ret
    exact ⟨rfl, gr.out⟩
  · have hn' : 1048576 < xs1.length := by omega
    clear hn1 hs1 hf1 v0
    generalize xs1.length = n1 at *
    go_enter Try.func5, Try.ntmps5
    go_wp2_with fail
    go_ret
    exact ⟨rfl, Gr.refl _⟩
end Go.Proofs.Ytojdbeebgllhhaa
