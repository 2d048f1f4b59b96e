/- GreedyWords: the law's walk. -/
import Derived.Test.YtojdbeebgllhhabGreedy
import Derived.Test.YtojdbeebgllhhabGreedyI
namespace Go.Proofs.Ytojdbeebgllhhab
open Go.RowKit
set_option maxRecDepth 100000 in
set_option maxHeartbeats 2000000 in
set_option linter.unusedVariables false in
theorem FnExactGreedyWords_walk (c0 : Int) (v0 : (Lit.int .i64 c0).wf = true) (c1 : Int) (v1 : (Lit.int .i64 c1).wf = true) (c2 : Int) (v2 : (Lit.int .i64 c2).wf = true) (c3 : Int) (v3 : (Lit.int .i64 c3).wf = true) (w : World) :
    Calls Try.prog 4 #[.int .i64 c0, .int .i64 c1, .int .i64 c2, .int .i64 c3] w fun e w' => e = .returned (.bool true) ∧ Gr w w' := by
  have hsp := fun V => spec_GreedyWords_any c0 v0 c1 v1 c2 v2 c3 v3 V
  have him := fun V => impl_GreedyWords_any c0 v0 c1 v1 c2 v2 c3 v3 V
  have hyl : (greedL c0 c1 c2 c3).length ≤ 1048576 := by have := greedL_length c0 c1 c2 c3; omega
  have hym2 : ∀ i, i < (greedL c0 c1 c2 c3).length → ((greedL c0 c1 c2 c3).getD i []).length ≤ 1048576 := fun i _ => by have := greedL_each c0 c1 c2 c3 i; omega
  have hys : 1 + (lensW (greedL c0 c1 c2 c3)).sum ≤ 1000 := greedL_sum c0 c1 c2 c3
  generalize greedL c0 c1 c2 c3 = r0 at *
  generalize greedC c0 c1 c2 c3 = r1 at *
  obtain ⟨m, hym⟩ : ∃ m, m = r0.length := ⟨_, rfl⟩
  have hye := fun a b ca cb V sa sb => eqWordS_own a b ca cb m r0 hym (by omega) (fun i hi => hym2 i (by omega)) V sa sb
  have HYE := hid hye
  have HSP := hid hsp
  have HIM := hid him
  have HYM := hid hym
  rw [← hym] at hyl
  clear hsp him hye hym hym2 v0 v1 v2 v3
  have gr := hid (Gr.refl w)
  go_enter Try.func4, Try.ntmps4
  go_wp2_with fail
  refine (HSP.out _).mono ?_
  rintro e W1 ⟨u1, vs1, rfl, o1, g1⟩
  replace gr := hid (gr.out.trans g1)
  obtain ⟨p1, q1, rfl⟩ := o1.shape
  have Ow := hid o1
  have gz1 := hid g1.size
  rw [← HYM.out] at Ow ⊢
  clear o1 g1
  unfold withCode
  have GB := hid gr.out.size
  go_wp2_with fail
  refine (HIM.out _).mono ?_
  rintro e W2 ⟨u2, vs2, rfl, o2, g2⟩
  replace gr := hid (gr.out.trans g2)
  replace Ow := hid (Ow.out.gr g2)
  obtain ⟨p2, q2, rfl⟩ := o2.shape
  have Og := hid o2
  have gz2 := hid g2.size
  rw [← HYM.out] at Og ⊢
  clear o2 g2
  unfold withCode
  have LB := hid gz2.out
  go_wp2_with fail
  refine (HYE.out _ _ _ _ _ Og.out.reads Ow.out.reads).mono ?_
  rintro e W3 ⟨rfl, g3⟩
  replace gr := hid (gr.out.trans g3)
  replace Ow := hid (Ow.out.gr g3)
  replace Og := hid (Og.out.gr g3)
  replace LB := hid (Nat.le_trans LB.out (Gr.size g3))
  clear g3
  go_wp2_with fail
  refine (markWordS_own _ _ _ _ _ 1 _ r0 hyl hys _ LB.out Og.out).mono ?_
  rintro e W4 ⟨rfl, o4, m4⟩
  have gm : Gr w W4 := Below.trans gr.out (Below.mono m4 (by have := GB.out; omega))
  replace gr := hid gm
  clear gm
  replace Ow := hid (Ow.out.below m4 (Nat.le_refl _))
  replace LB := hid (Nat.le_trans LB.out (Below.size m4))
  replace Og := hid o4
  clear o4 m4
  go_wp2_with fail
  refine (heldWordS_own _ _ 1 _ (lensW r0) (by rw [lensW_length]; exact HYM.out) hyl hys _ Og.out.reads).mono ?_
  rintro e W5 ⟨rfl, g5⟩
  replace gr := hid (gr.out.trans g5)
  replace Ow := hid (Ow.out.gr g5)
  replace Og := hid (Og.out.gr g5)
  replace LB := hid (Nat.le_trans LB.out (Gr.size g5))
  clear g5
  go_wp2_with fail
  refine (HIM.out _).mono ?_
  rintro e W6 ⟨u6, vs6, rfl, o6, g6⟩
  replace gr := hid (gr.out.trans g6)
  replace Ow := hid (Ow.out.gr g6)
  replace Og := hid (Og.out.gr g6)
  replace LB := hid (Nat.le_trans LB.out (Gr.size g6))
  obtain ⟨p6, q6, rfl⟩ := o6.shape
  have Oh := hid o6
  have gz6 := hid g6.size
  rw [← HYM.out] at Oh ⊢
  clear o6 g6
  unfold withCode
  go_wp2_with fail
  refine (HYE.out _ _ _ _ _ Oh.out.reads Ow.out.reads).mono ?_
  rintro e W7 ⟨rfl, g7⟩
  replace gr := hid (gr.out.trans g7)
  replace Ow := hid (Ow.out.gr g7)
  replace Og := hid (Og.out.gr g7)
  replace Oh := hid (Oh.out.gr g7)
  replace LB := hid (Nat.le_trans LB.out (Gr.size g7))
  clear g7
  go_wp2_with fail
  refine (heldWordS_own _ _ 1 _ (lensW r0) (by rw [lensW_length]; exact HYM.out) hyl hys _ Og.out.reads).mono ?_
  rintro e W8 ⟨rfl, g8⟩
  replace gr := hid (gr.out.trans g8)
  replace Ow := hid (Ow.out.gr g8)
  replace Og := hid (Og.out.gr g8)
  replace Oh := hid (Oh.out.gr g8)
  replace LB := hid (Nat.le_trans LB.out (Gr.size g8))
  clear g8
  go_wp2_with fail
  go_ret
  exact ⟨rfl, gr.out⟩
end Go.Proofs.Ytojdbeebgllhhab
