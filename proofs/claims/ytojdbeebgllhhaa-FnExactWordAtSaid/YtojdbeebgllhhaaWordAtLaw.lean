/- WordAt: the law's walk. -/
import Derived.Test.YtojdbeebgllhhaaWord7
import Derived.Test.YtojdbeebgllhhaaSlicesW
namespace Go.Proofs.Ytojdbeebgllhhaa
open Go.RowKit
set_option maxRecDepth 100000 in
set_option maxHeartbeats 2000000 in
set_option linter.unusedVariables false in
theorem FnExactWordAt_walk (c0 : Int) (v0 : (Lit.int .i64 c0).wf = true) (c1 : Int) (v1 : (Lit.int .i64 c1).wf = true) (c2 : Int) (v2 : (Lit.int .i64 c2).wf = true) (w : World) :
    Calls Try.prog 8 #[.int .i64 c0, .int .i64 c1, .int .i64 c2] w fun e w' => e = .returned (.bool true) ∧ Gr w w' := by
  have hsp := spec_WordAt_any c0 v0 c1 v1 c2 v2
  have him := impl_WordAt_any c0 v0 c1 v1 c2 v2
  have hyl : (wordAtL c0 c1 c2).length ≤ 1048576 := by have := wordAtL_length c0 c1 c2; omega
  generalize wordAtL c0 c1 c2 = r0 at *
  generalize wordAtC c0 c1 c2 = r1 at *
  have hye := fun a b ca cb => eqWord_own a b ca cb r0 hyl
  have HYE := hid hye
  clear hye
  have HSP := hid hsp
  have HIM := hid him
  clear hsp him
  clear v0 v1 v2
  obtain ⟨m, hym⟩ : ∃ m, m = r0.length := ⟨_, rfl⟩
  rw [← hym] at hyl HYE
  have HYM := hid hym
  clear hym
  have gr := hid (Gr.refl w)
  go_enter Try.func8, Try.ntmps8
  go_wp2_with fail
  refine (HSP.out _).mono ?_
  rintro e W1 ⟨u1, rfl, o1, g1⟩
  replace gr := hid (gr.out.trans g1)
  obtain ⟨p1, q1, rfl⟩ := o1.shape
  have Ow := hid o1
  have gz1 := hid g1.size
  rw [← HYM.out] at Ow ⊢
  clear o1 g1
  unfold withCode
  have GB := hid gr.out.size
  go_wp2_with fail
  refine (HIM.out _).mono ?_
  rintro e W2 ⟨u2, rfl, o2, g2⟩
  replace gr := hid (gr.out.trans g2)
  replace Ow := hid (Ow.out.gr g2)
  obtain ⟨p2, q2, rfl⟩ := o2.shape
  have Og := hid o2
  have gz2 := hid g2.size
  rw [← HYM.out] at Og ⊢
  clear o2 g2
  unfold withCode
  go_wp2_with fail
  refine (HYE.out _ _ _ _ _ Og.out.reads Ow.out.reads).mono ?_
  rintro e W3 ⟨rfl, g3⟩
  replace gr := hid (gr.out.trans g3)
  replace Ow := hid (Ow.out.gr g3)
  replace Og := hid (Og.out.gr g3)
  clear g3
  go_wp2_with fail
  refine (markWord_one _ _ _ _ _ r0 (by rw [← HYM.out]; exact hyl) _ Og.out).mono ?_
  rintro e W4 ⟨rfl, o4, m4⟩
  have M4 := hid m4
  have rl := Og.out.row.lt
  have gm : Gr w W4 := gr.out.by_ M4.out (fun b e => by have := (rl b e).1; have := GB.out; have := gz1.out; omega)
  replace gr := hid gm
  clear gm
  replace Ow := hid (Ow.out.by_ M4.out (fun b e => by right; have := (rl b e).1; have := gz1.out; omega))
  replace Og := hid o4
  clear M4 o4 m4 rl
  go_wp2_with fail
  refine (heldWord_one _ _ _ hyl _ Og.out.reads).mono ?_
  rintro e W5 ⟨rfl, g5⟩
  replace gr := hid (gr.out.trans g5)
  replace Ow := hid (Ow.out.gr g5)
  replace Og := hid (Og.out.gr g5)
  clear g5
  go_wp2_with fail
  refine (HIM.out _).mono ?_
  rintro e W6 ⟨u6, rfl, o6, g6⟩
  replace gr := hid (gr.out.trans g6)
  replace Ow := hid (Ow.out.gr g6)
  replace Og := hid (Og.out.gr g6)
  obtain ⟨p6, q6, rfl⟩ := o6.shape
  have Oh := hid o6
  have gz6 := hid g6.size
  rw [← HYM.out] at Oh ⊢
  clear o6 g6
  unfold withCode
  go_wp2_with fail
  refine (HYE.out _ _ _ _ _ Oh.out.reads Ow.out.reads).mono ?_
  rintro e W7 ⟨rfl, g7⟩
  replace gr := hid (gr.out.trans g7)
  replace Ow := hid (Ow.out.gr g7)
  replace Og := hid (Og.out.gr g7)
  replace Oh := hid (Oh.out.gr g7)
  clear g7
  go_wp2_with fail
  refine (heldWord_one _ _ _ hyl _ Og.out.reads).mono ?_
  rintro e W8 ⟨rfl, g8⟩
  replace gr := hid (gr.out.trans g8)
  replace Ow := hid (Ow.out.gr g8)
  replace Og := hid (Og.out.gr g8)
  replace Oh := hid (Oh.out.gr g8)
  clear g8
  go_wp2_with fail
  go_ret
  exact ⟨rfl, gr.out⟩
end Go.Proofs.Ytojdbeebgllhhaa
