/- RepairWord: the law's walk. -/
import Derived.Test.YtojdbeebgllhhaaWord5I
import Derived.Test.YtojdbeebgllhhaaSlicesW
namespace Go.Proofs.Ytojdbeebgllhhaa
open Go.RowKit
set_option maxRecDepth 100000 in
set_option maxHeartbeats 2000000 in
set_option linter.unusedVariables false in
theorem FnExactRepairWord_walk (c0 : Int) (v0 : (Lit.int .i64 c0).wf = true) (a1 : Option Addr) (cap1 : Nat) (xs1 : List Int) (hm1 : xs1.length ≤ maxLen) (hf1 : Fits .u8 xs1) (w : World) (hs1 : SliceOf .u8 w a1 xs1) :
    Calls Try.prog 10 #[.int .i64 c0, .slice a1 xs1.length cap1] w fun e w' => e = .returned (.bool true) ∧ Gr w w' := by
  unfold maxLen at hm1
  by_cases hn1 : xs1.length ≤ 1048576
  · skip
    have hsp := fun b1 => spec_RepairWord_any c0 v0 b1 xs1 hn1 hf1
    have him := fun b1 => impl_RepairWord_any c0 v0 b1 xs1 hn1 hf1
    have hto1 := fun a0 cap => toWord_own a0 cap xs1 hn1
    have heq1 := fun a b ca cb => eqWord_own a b ca cb xs1 hn1
    have hyl : (repL c0 xs1).length ≤ 1048576 := by have := repL_length c0 xs1; omega
    generalize repL c0 xs1 = r0 at *
    generalize repI c0 xs1 = r1 at *
    generalize repC c0 xs1 = r2 at *
    have hye := fun a b ca cb => eqWord_own a b ca cb r0 hyl
    have HYE := hid hye
    clear hye
    have HSP := hid hsp
    have HIM := hid him
    clear hsp him
    have HTO1 := hid hto1
    have HEQ1 := hid heq1
    have S1 := hid hs1
    clear hto1 heq1 hs1 hm1 hf1
    have hxl1 : xs1.length ≤ maxLen := by unfold maxLen; omega
    have HXL1 := hid hxl1
    clear hxl1
    clear v0
    obtain ⟨n1, hxn1⟩ : ∃ n, n = xs1.length := ⟨_, rfl⟩
    rw [← hxn1] at hn1 HSP HIM HTO1 HEQ1 ⊢
    have HXN1 := hid hxn1
    clear hxn1
    obtain ⟨m, hym⟩ : ∃ m, m = r0.length := ⟨_, rfl⟩
    rw [← hym] at hyl HYE
    have HYM := hid hym
    clear hym
    have gr := hid (Gr.refl w)
    have Z1 := S1
    go_enter Try.func10, Try.ntmps10
    go_wp2_with fail
    refine (HTO1.out _ _ _ S1.out).mono ?_
    rintro e W1 ⟨rfl, h1, g1⟩
    replace gr := hid (gr.out.trans g1)
    replace S1 := hid (S1.out.gr g1)
    have Bs1 := hid h1
    have gz1 := hid g1.size
    have ltBs1 := hid (lt_of_heap h1)
    clear h1 g1
    go_wp2_with fail
    refine (HSP.out _ _ (sliceOf_block Bs1.out)).mono ?_
    rintro e W2 ⟨u2, rfl, o2, g2⟩
    replace gr := hid (gr.out.trans g2)
    replace S1 := hid (S1.out.gr g2)
    replace Bs1 := hid (g2.heap Bs1.out)
    obtain ⟨p2, q2, rfl⟩ := o2.shape
    have Ow := hid o2
    have gz2 := hid g2.size
    rw [← HYM.out] at Ow ⊢
    clear o2 g2
    unfold with2
    clear Bs1
    have GB := hid gr.out.size
    go_wp2_with fail
    refine (HTO1.out _ _ _ S1.out).mono ?_
    rintro e W3 ⟨rfl, h3, g3⟩
    replace gr := hid (gr.out.trans g3)
    replace S1 := hid (S1.out.gr g3)
    replace Ow := hid (Ow.out.gr g3)
    have Bx1 := hid h3
    have gz3 := hid g3.size
    have ltBx1 := hid (lt_of_heap h3)
    clear h3 g3
    go_wp2_with fail
    refine (HIM.out _ _ (sliceOf_block Bx1.out)).mono ?_
    rintro e W4 ⟨u4, rfl, o4, g4⟩
    replace gr := hid (gr.out.trans g4)
    replace S1 := hid (S1.out.gr g4)
    replace Ow := hid (Ow.out.gr g4)
    replace Bx1 := hid (g4.heap Bx1.out)
    obtain ⟨p4, q4, rfl⟩ := o4.shape
    have Og := hid o4
    have gz4 := hid g4.size
    rw [← HYM.out] at Og ⊢
    clear o4 g4
    unfold with2
    go_wp2_with fail
    refine (HYE.out _ _ _ _ _ Og.out.reads Ow.out.reads).mono ?_
    rintro e W5 ⟨rfl, g5⟩
    replace gr := hid (gr.out.trans g5)
    replace S1 := hid (S1.out.gr g5)
    replace Ow := hid (Ow.out.gr g5)
    replace Og := hid (Og.out.gr g5)
    replace Bx1 := hid (g5.heap Bx1.out)
    clear g5
    go_wp2_with fail
    refine (HTO1.out _ _ _ S1.out).mono ?_
    rintro e W6 ⟨rfl, h6, g6⟩
    replace gr := hid (gr.out.trans g6)
    replace S1 := hid (S1.out.gr g6)
    replace Ow := hid (Ow.out.gr g6)
    replace Og := hid (Og.out.gr g6)
    replace Bx1 := hid (g6.heap Bx1.out)
    have Bt := hid h6
    have gz6 := hid g6.size
    have ltBt := hid (lt_of_heap h6)
    clear h6 g6
    go_wp2_with fail
    refine (HEQ1.out _ _ _ _ _ (sliceOf_block Bx1.out) (sliceOf_block Bt.out)).mono ?_
    rintro e W7 ⟨rfl, g7⟩
    replace gr := hid (gr.out.trans g7)
    replace S1 := hid (S1.out.gr g7)
    replace Ow := hid (Ow.out.gr g7)
    replace Og := hid (Og.out.gr g7)
    replace Bx1 := hid (g7.heap Bx1.out)
    replace Bt := hid (g7.heap Bt.out)
    clear Bt
    clear g7
    have Ox := hid (Own.ofBlock (k := .u8) Bx1.out HXL1.out)
    rw [← HXN1.out] at Ox
    clear Bx1
    go_wp2_with fail
    refine (markWord_one _ _ _ _ _ xs1 (by rw [← HXN1.out]; exact hn1) _ Ox.out).mono ?_
    rintro e W8 ⟨rfl, -, m8⟩
    have M8 := hid m8
    clear Ox m8
    have gm : Gr w W8 := gr.out.by_ M8.out (fun b e => by cases e; have := GB.out; omega)
    replace gr := hid gm
    replace S1 := hid (Z1.out.gr gm)
    clear gm
    replace Ow := hid (Ow.out.by_ M8.out (fun b e => by cases e; right; exact Nat.le_refl _))
    replace Og := hid (Og.out.by_ M8.out (fun b e => by cases e; left; have := ltBx1.out; omega))
    clear M8
    go_wp2_with fail
    refine (HYE.out _ _ _ _ _ Og.out.reads Ow.out.reads).mono ?_
    rintro e W9 ⟨rfl, g9⟩
    replace gr := hid (gr.out.trans g9)
    replace S1 := hid (S1.out.gr g9)
    replace Ow := hid (Ow.out.gr g9)
    replace Og := hid (Og.out.gr g9)
    clear g9
    go_wp2_with fail
    refine (markWord_one _ _ _ _ _ r0 (by rw [← HYM.out]; exact hyl) _ Og.out).mono ?_
    rintro e W10 ⟨rfl, o10, m10⟩
    have M10 := hid m10
    have rl := Og.out.row.lt
    have gm : Gr w W10 := gr.out.by_ M10.out (fun b e => by have := (rl b e).1; have := GB.out; have := gz3.out; omega)
    replace gr := hid gm
    replace S1 := hid (Z1.out.gr gm)
    clear gm
    replace Ow := hid (Ow.out.by_ M10.out (fun b e => by right; have := (rl b e).1; have := gz3.out; omega))
    replace Og := hid o10
    clear M10 o10 m10 rl
    go_wp2_with fail
    refine (heldWord_one _ _ _ hyl _ Og.out.reads).mono ?_
    rintro e W11 ⟨rfl, g11⟩
    replace gr := hid (gr.out.trans g11)
    replace S1 := hid (S1.out.gr g11)
    replace Ow := hid (Ow.out.gr g11)
    replace Og := hid (Og.out.gr g11)
    clear g11
    go_wp2_with fail
    refine (HTO1.out _ _ _ S1.out).mono ?_
    rintro e W12 ⟨rfl, h12, g12⟩
    replace gr := hid (gr.out.trans g12)
    replace S1 := hid (S1.out.gr g12)
    replace Ow := hid (Ow.out.gr g12)
    replace Og := hid (Og.out.gr g12)
    have Bu1 := hid h12
    have gz12 := hid g12.size
    have ltBu1 := hid (lt_of_heap h12)
    clear h12 g12
    go_wp2_with fail
    refine (HIM.out _ _ (sliceOf_block Bu1.out)).mono ?_
    rintro e W13 ⟨u13, rfl, o13, g13⟩
    replace gr := hid (gr.out.trans g13)
    replace S1 := hid (S1.out.gr g13)
    replace Ow := hid (Ow.out.gr g13)
    replace Og := hid (Og.out.gr g13)
    replace Bu1 := hid (g13.heap Bu1.out)
    obtain ⟨p13, q13, rfl⟩ := o13.shape
    have Oh := hid o13
    have gz13 := hid g13.size
    rw [← HYM.out] at Oh ⊢
    clear o13 g13
    unfold with2
    clear Bu1
    go_wp2_with fail
    refine (HYE.out _ _ _ _ _ Oh.out.reads Ow.out.reads).mono ?_
    rintro e W14 ⟨rfl, g14⟩
    replace gr := hid (gr.out.trans g14)
    replace S1 := hid (S1.out.gr g14)
    replace Ow := hid (Ow.out.gr g14)
    replace Og := hid (Og.out.gr g14)
    replace Oh := hid (Oh.out.gr g14)
    clear g14
    go_wp2_with fail
    refine (heldWord_one _ _ _ hyl _ Og.out.reads).mono ?_
    rintro e W15 ⟨rfl, g15⟩
    replace gr := hid (gr.out.trans g15)
    replace S1 := hid (S1.out.gr g15)
    replace Ow := hid (Ow.out.gr g15)
    replace Og := hid (Og.out.gr g15)
    replace Oh := hid (Oh.out.gr g15)
    clear g15
    go_wp2_with fail
    go_ret
    exact ⟨rfl, gr.out⟩
  · have hn' : 1048576 < xs1.length := by omega
    clear hn1 hs1 hf1 v0
    generalize xs1.length = n1 at *
    go_enter Try.func10, Try.ntmps10
    go_wp2_with fail
    go_ret
    exact ⟨rfl, Gr.refl _⟩
end Go.Proofs.Ytojdbeebgllhhaa
