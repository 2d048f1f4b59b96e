/- AlikeHoists: the law's walk. -/
import Derived.Test.YtnghcchkiodalabHoistE
namespace Go.Proofs.Ytnghcchkiodalab
open Go.RowKit
set_option maxHeartbeats 2000000 in
set_option linter.unusedVariables false in
theorem FnExactAlikeHoists_walk (a0 : Option Addr) (cap : Nat) (xs : List Int) (hm : xs.length ≤ maxLen) (hf : Fits .i8 xs) (b0 : Option Addr) (capb : Nat) (ys : List Int) (hmb : ys.length ≤ maxLen) (hfb : Fits .i8 ys) (w : World) (hs : SliceOf .i8 w a0 xs) (ht : SliceOf .i8 w b0 ys) :
    Calls Try.prog 7 #[.slice a0 xs.length cap, .slice b0 ys.length capb] w fun e w' => e = .returned (.bool true) ∧ Gr w w' := by
  unfold maxLen at hm hmb
  by_cases hn : xs.length ≤ 1048576
  · by_cases hnb : ys.length ≤ 1048576
    · have hsp := fun a b => spec_AlikeHoists_any a xs hn hf b ys hnb hfb
      have him := fun a b => impl_AlikeHoists_any a xs hn hf b ys hnb hfb
      have hto := fun a0 cap => toHoist_own a0 cap xs hn
      have htob := fun a0 cap => toHoist_own a0 cap ys hnb
      have heq := fun a b ca cb => eqHoist_own a b ca cb xs hn
      have heqb := fun a b ca cb => eqHoist_own a b ca cb ys hnb
      generalize alikeB xs ys = r0 at *
      generalize alikeC xs ys = r1 at *
      have HSP := hid hsp
      have HIM := hid him
      have HTO := hid hto
      have HTOB := hid htob
      have HEQ := hid heq
      have HEQB := hid heqb
      have S := hid hs
      have T := hid ht
      clear hsp him hto htob heq heqb hs ht hm hmb hf hfb
      generalize xs.length = n at *
      generalize ys.length = m at *
      have gr := hid (Gr.refl w)
      go_enter Try.func7, Try.ntmps7
      go_wp2_with fail
      refine (HTO.out _ _ _ S.out).mono ?_
      rintro e W1 ⟨rfl, h1, g1⟩
      replace gr := hid (gr.out.trans g1)
      replace S := hid (S.out.gr g1)
      replace T := hid (T.out.gr g1)
      have B1 := hid h1
      clear h1 g1
      go_wp2_with fail
      refine (HTOB.out _ _ _ T.out).mono ?_
      rintro e W2 ⟨rfl, h2, g2⟩
      replace gr := hid (gr.out.trans g2)
      replace S := hid (S.out.gr g2)
      replace T := hid (T.out.gr g2)
      replace B1 := hid (g2.heap B1.out)
      have B2 := hid h2
      clear h2 g2
      go_wp2_with fail
      refine (HSP.out _ _ _ (sliceOf_block B1.out) (sliceOf_block B2.out)).mono ?_
      rintro e W3 ⟨rfl, g3⟩
      replace gr := hid (gr.out.trans g3)
      replace S := hid (S.out.gr g3)
      replace T := hid (T.out.gr g3)
      replace B1 := hid (g3.heap B1.out)
      replace B2 := hid (g3.heap B2.out)
      clear g3
      clear B1
      clear B2
      go_wp2_with fail
      refine (HTO.out _ _ _ S.out).mono ?_
      rintro e W4 ⟨rfl, h4, g4⟩
      replace gr := hid (gr.out.trans g4)
      replace S := hid (S.out.gr g4)
      replace T := hid (T.out.gr g4)
      have X0 := hid h4
      clear h4 g4
      go_wp2_with fail
      refine (HTOB.out _ _ _ T.out).mono ?_
      rintro e W5 ⟨rfl, h5, g5⟩
      replace gr := hid (gr.out.trans g5)
      replace S := hid (S.out.gr g5)
      replace T := hid (T.out.gr g5)
      replace X0 := hid (g5.heap X0.out)
      have X1 := hid h5
      clear h5 g5
      go_wp2_with fail
      refine (HIM.out _ _ _ (sliceOf_block X0.out) (sliceOf_block X1.out)).mono ?_
      rintro e W6 ⟨rfl, g6⟩
      replace gr := hid (gr.out.trans g6)
      replace S := hid (S.out.gr g6)
      replace T := hid (T.out.gr g6)
      replace X0 := hid (g6.heap X0.out)
      replace X1 := hid (g6.heap X1.out)
      clear g6
      go_wp2_with fail
      refine (HTO.out _ _ _ S.out).mono ?_
      rintro e W7 ⟨rfl, h7, g7⟩
      replace gr := hid (gr.out.trans g7)
      replace S := hid (S.out.gr g7)
      replace T := hid (T.out.gr g7)
      replace X0 := hid (g7.heap X0.out)
      replace X1 := hid (g7.heap X1.out)
      have Bt := hid h7
      clear h7 g7
      go_wp2_with fail
      refine (HEQ.out _ _ _ _ _ (sliceOf_block X0.out) (sliceOf_block Bt.out)).mono ?_
      rintro e W8 ⟨rfl, g8⟩
      replace gr := hid (gr.out.trans g8)
      replace S := hid (S.out.gr g8)
      replace T := hid (T.out.gr g8)
      replace X0 := hid (g8.heap X0.out)
      replace X1 := hid (g8.heap X1.out)
      replace Bt := hid (g8.heap Bt.out)
      clear g8
      clear Bt
      go_wp2_with fail
      refine (HTOB.out _ _ _ T.out).mono ?_
      rintro e W9 ⟨rfl, h9, g9⟩
      replace gr := hid (gr.out.trans g9)
      replace S := hid (S.out.gr g9)
      replace T := hid (T.out.gr g9)
      replace X0 := hid (g9.heap X0.out)
      replace X1 := hid (g9.heap X1.out)
      have Bt := hid h9
      clear h9 g9
      go_wp2_with fail
      refine (HEQB.out _ _ _ _ _ (sliceOf_block X1.out) (sliceOf_block Bt.out)).mono ?_
      rintro e W10 ⟨rfl, g10⟩
      replace gr := hid (gr.out.trans g10)
      replace S := hid (S.out.gr g10)
      replace T := hid (T.out.gr g10)
      replace X0 := hid (g10.heap X0.out)
      replace X1 := hid (g10.heap X1.out)
      replace Bt := hid (g10.heap Bt.out)
      clear g10
      clear Bt
      go_wp2_with fail
      go_ret
      exact ⟨rfl, gr.out⟩
    · have hn' : 1048576 < ys.length := by omega
      clear hnb hs ht hf hfb
      generalize xs.length = n at *
      generalize ys.length = m at *
      go_enter Try.func7, Try.ntmps7
      go_wp2_with fail
      go_ret
      exact ⟨rfl, Gr.refl _⟩
  · have hn' : 1048576 < xs.length := by omega
    clear hn hs ht hf hfb
    generalize xs.length = n at *
    generalize ys.length = m at *
    go_enter Try.func7, Try.ntmps7
    go_wp2_with fail
    go_ret
    exact ⟨rfl, Gr.refl _⟩
end Go.Proofs.Ytnghcchkiodalab
