/- WaysToHoist: the law's walk. -/
import Derived.Test.YtaedompacmdacabHForW
namespace Go.Proofs.Ytaedompacmdacab
open Go.RowKit
set_option maxRecDepth 100000 in
set_option maxHeartbeats 2000000 in
set_option linter.unusedVariables false in
theorem FnExactWaysToHoist_walk (a0 : Option Addr) (cap : Nat) (xs : List Int) (hm : xs.length ≤ maxLen) (hf : Fits .i8 xs) (c0 : Int) (v0 : (Lit.int .i64 c0).wf = true) (c1 : Int) (v1 : (Lit.int .i64 c1).wf = true) (w : World) (hs : SliceOf .i8 w a0 xs) :
    Calls Try.prog 3 #[.slice a0 xs.length cap, .int .i64 c0, .int .i64 c1] w fun e w' => e = .returned (.bool true) ∧ Gr w w' := by
  unfold maxLen at hm
  by_cases hn : xs.length ≤ 1048576
  · have hsp := fun a => spec_WaysToHoist_any a xs hn hf c0 v0 c1 v1
    have him := fun a => impl_WaysToHoist_any a xs hn hf c0 v0 c1 v1
    have hto := fun a0 cap => toMeaning_own a0 cap xs hn
    have heq := fun a b ca cb => eqMeaning_own a b ca cb xs hn
    generalize waysV xs c0 c1 = r0 at *
    generalize askC xs c0 c1 = r1 at *
    have HSP := hid hsp
    have HIM := hid him
    have HTO := hid hto
    have HEQ := hid heq
    have S := hid hs
    clear hsp him hto heq hs hm hf v0 v1
    have hxl : xs.length ≤ maxLen := by unfold maxLen; omega
    have HXL := hid hxl
    clear hxl
    obtain ⟨n, hxn⟩ : ∃ n, n = xs.length := ⟨_, rfl⟩
    rw [← hxn] at hn HSP HIM HTO HEQ ⊢
    have HXN := hid hxn
    clear hxn
    have gr := hid (Gr.refl w)
    go_enter Try.func3, Try.ntmps3
    go_wp2_with fail
    refine (HTO.out _ _ _ S.out).mono ?_
    rintro e W1 ⟨rfl, h1, g1⟩
    replace gr := hid (gr.out.trans g1)
    replace S := hid (S.out.gr g1)
    have B1 := hid h1
    have gz1 := hid g1.size
    have lt1 := hid (lt_of_heap h1)
    clear h1 g1
    go_wp2_with fail
    refine (HSP.out _ _ (sliceOf_block B1.out)).mono ?_
    rintro e W2 ⟨rfl, g2⟩
    replace gr := hid (gr.out.trans g2)
    replace S := hid (S.out.gr g2)
    clear g2
    clear B1
    go_wp2_with fail
    refine (HTO.out _ _ _ S.out).mono ?_
    rintro e W3 ⟨rfl, h3, g3⟩
    replace gr := hid (gr.out.trans g3)
    replace S := hid (S.out.gr g3)
    have Bx := hid h3
    have gz3 := hid g3.size
    have lt3 := hid (lt_of_heap h3)
    clear h3 g3
    go_wp2_with fail
    refine (HIM.out _ _ (sliceOf_block Bx.out)).mono ?_
    rintro e W4 ⟨rfl, g4⟩
    replace gr := hid (gr.out.trans g4)
    replace S := hid (S.out.gr g4)
    replace Bx := hid (g4.heap Bx.out)
    clear g4
    go_wp2_with fail
    refine (HTO.out _ _ _ S.out).mono ?_
    rintro e W5 ⟨rfl, h5, g5⟩
    replace gr := hid (gr.out.trans g5)
    replace S := hid (S.out.gr g5)
    replace Bx := hid (g5.heap Bx.out)
    have Bt := hid h5
    have gz5 := hid g5.size
    have lt5 := hid (lt_of_heap h5)
    clear h5 g5
    go_wp2_with fail
    refine (HEQ.out _ _ _ _ _ (sliceOf_block Bx.out) (sliceOf_block Bt.out)).mono ?_
    rintro e W6 ⟨rfl, g6⟩
    replace gr := hid (gr.out.trans g6)
    replace S := hid (S.out.gr g6)
    replace Bx := hid (g6.heap Bx.out)
    clear g6 Bt
    go_wp2_with fail
    go_ret
    exact ⟨rfl, gr.out⟩
  · have hn' : 1048576 < xs.length := by omega
    clear hn hs hf v0 v1
    generalize xs.length = n at *
    go_enter Try.func3, Try.ntmps3
    go_wp2_with fail
    go_ret
    exact ⟨rfl, Gr.refl _⟩
end Go.Proofs.Ytaedompacmdacab
