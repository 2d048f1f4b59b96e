/- CommonOf: the law's walk. -/
import Derived.Test.YtnkoakneffjkbaaDoorCommonOfP
import Derived.Test.YtnkoakneffjkbaaDoorCommonS
import Derived.Test.YtnkoakneffjkbaaDoorEntHd
import Derived.Test.YtnkoakneffjkbaaDoorStepMk
namespace Go.Proofs.YtnkoakneffjkbaaDoor
set_option linter.unusedVariables false
open Go.RowKit
set_option maxRecDepth 100000 in
set_option maxHeartbeats 3000000 in
set_option linter.unusedVariables false in
theorem FnExactCommonOf_walk (a0 : Option Addr) (n0 cap0 : Nat) (ts0 : List En) (hl0 : n0 = ts0.length) (hm0 : n0 ≤ maxLen) (hf0 : EnFits ts0) (a1 : Option Addr) (n1 cap1 : Nat) (ts1 : List En) (hl1 : n1 = ts1.length) (hm1 : n1 ≤ maxLen) (hf1 : EnFits ts1) (w : World) (hs0 : CellsOf w a0 (enCells ts0)) (hs1 : CellsOf w a1 (enCells ts1)) :
    Calls Tryd.prog 3 #[.slice a0 n0 cap0, .slice a1 n1 cap1] w fun e w' => e = .returned (.bool true) ∧ Gr w w' := by
  unfold maxLen at hm0
  have hc0 : EntrysC n0 (enCells ts0) := by rw [hl0]; exact enCells_sC ts0
  unfold maxLen at hm1
  have hc1 : EntrysC n1 (enCells ts1) := by rw [hl1]; exact enCells_sC ts1
  have HSP := hid (fun (hn0 : n0 ≤ 1048576) (hn1 : n1 ≤ 1048576) => fun b0 b1 => spec_CommonOf_law b0 n0 n0 ts0 hl0 hn0 hf0 b1 n1 n1 ts1 hl1 hn1 hf1)
  have HIM := hid (fun (hn0 : n0 ≤ 1048576) (hn1 : n1 ≤ 1048576) => fun b0 b1 => impl_CommonOf_law b0 n0 n0 ts0 hl0 hn0 hf0 b1 n1 n1 ts1 hl1 hn1 hf1 (Nat.le_refl _))
  have hyl : (commonV ts0 ts1).length ≤ 1048576 := commonV_length ts0 ts1
  have hyc : StepsC ((commonV ts0 ts1).length) (flCells (commonV ts0 ts1)) := flCells_sC _
  generalize (commonV ts0 ts1).length = m at *
  generalize flCells (commonV ts0 ts1) = r0 at *
  generalize code2 ts0 ts1 = r1 at *
  have HYE := hid (fun a b ca cb => eqStepS_own a b ca cb m r0 hyc hyl)
  have HYC := hid hyc.1
  clear hyc
  have HTO0 := hid (fun hn a0 cap => toEntryS_own a0 cap n0 _ hc0 hn)
  have HEQ0 := hid (fun hn a b ca cb => eqLog_own a b ca cb n0 _ hc0 hn)
  have HCL0 := hid hc0.1
  have S0 := hid hs0
  have HTO1 := hid (fun hn a0 cap => toEntryS_own a0 cap n1 _ hc1 hn)
  have HEQ1 := hid (fun hn a b ca cb => eqLog_own a b ca cb n1 _ hc1 hn)
  have HCL1 := hid hc1.1
  have S1 := hid hs1
  clear hs0 hc0 hl0 hf0 hs1 hc1 hl1 hf1
  have gr := hid (Gr.refl w)
  have Z0 := S0
  have Z1 := S1
  go_enter Tryd.func3, Tryd.ntmps3
  go_wp2_with fail
  refine (szEntryS_any _ _ _ 1048576 (by omega) (by omega) _).mono ?_
  rintro e W1 ⟨⟨rr0, rfl, hr0⟩, rfl⟩
  by_cases hrr0 : rr0 < 0
  · go_wp2_with fail
    go_ret
    exact ⟨rfl, gr.out⟩
  have hn0 : n0 ≤ 1048576 := by rcases hr0 with h | h <;> omega
  have HN0 := hid hn0
  obtain ⟨lf0, rfl⟩ := Int.eq_ofNat_of_zero_le (by omega : 0 ≤ rr0)
  have hlf0 : lf0 ≤ 1048576 := by rcases hr0 with h | h <;> omega
  go_wp2_with fail
  refine (szEntryS_any _ _ _ lf0 (by omega) (by omega) _).mono ?_
  rintro e W2 ⟨⟨rr1, rfl, hr1⟩, rfl⟩
  by_cases hrr1 : rr1 < 0
  · go_wp2_with fail
    go_ret
    exact ⟨rfl, gr.out⟩
  have hn1 : n1 ≤ 1048576 := by rcases hr1 with h | h <;> omega
  have HN1 := hid hn1
  go_wp2_with fail
  refine (HTO0.out HN0.out _ _ _ S0.out).mono ?_
  rintro e W3 ⟨rfl, h3, g3⟩
  replace gr := hid (gr.out.trans g3)
  replace S0 := hid (S0.out.gr g3)
  replace S1 := hid (S1.out.gr g3)
  have Bs0 := hid h3
  have gz3 := hid g3.size
  have ltBs0 := hid (lt_of_heap h3)
  clear h3 g3
  go_wp2_with fail
  refine (HTO1.out HN1.out _ _ _ S1.out).mono ?_
  rintro e W4 ⟨rfl, h4, g4⟩
  replace gr := hid (gr.out.trans g4)
  replace S0 := hid (S0.out.gr g4)
  replace S1 := hid (S1.out.gr g4)
  replace Bs0 := hid (g4.heap Bs0.out)
  have Bs1 := hid h4
  have gz4 := hid g4.size
  have ltBs1 := hid (lt_of_heap h4)
  clear h4 g4
  go_wp2_with fail
  refine (HSP.out HN0.out HN1.out _ _ _ (cellsOf_list Bs0.out) (cellsOf_list Bs1.out)).mono ?_
  rintro e W5 ⟨u5, rfl, o5, g5⟩
  replace gr := hid (gr.out.trans g5)
  replace S0 := hid (S0.out.gr g5)
  replace S1 := hid (S1.out.gr g5)
  replace Bs0 := hid (g5.heap Bs0.out)
  replace Bs1 := hid (g5.heap Bs1.out)
  obtain ⟨p5, q5, rfl⟩ := o5.shape
  have Ow := hid o5
  have gz5 := hid g5.size
  clear o5 g5
  unfold withCode
  clear Bs0
  clear Bs1
  have GB := hid gr.out.size
  go_wp2_with fail
  refine (HTO0.out HN0.out _ _ _ S0.out).mono ?_
  rintro e W6 ⟨rfl, h6, g6⟩
  replace gr := hid (gr.out.trans g6)
  replace S0 := hid (S0.out.gr g6)
  replace S1 := hid (S1.out.gr g6)
  replace Ow := hid (Ow.out.gr g6)
  have Bx0 := hid h6
  have gz6 := hid g6.size
  have ltBx0 := hid (lt_of_heap h6)
  clear h6 g6
  go_wp2_with fail
  refine (HTO1.out HN1.out _ _ _ S1.out).mono ?_
  rintro e W7 ⟨rfl, h7, g7⟩
  replace gr := hid (gr.out.trans g7)
  replace S0 := hid (S0.out.gr g7)
  replace S1 := hid (S1.out.gr g7)
  replace Ow := hid (Ow.out.gr g7)
  replace Bx0 := hid (g7.heap Bx0.out)
  have Bx1 := hid h7
  have gz7 := hid g7.size
  have ltBx1 := hid (lt_of_heap h7)
  clear h7 g7
  go_wp2_with fail
  refine (HIM.out HN0.out HN1.out _ _ _ (cellsOf_list Bx0.out) (cellsOf_list Bx1.out)).mono ?_
  rintro e W8 ⟨u8, rfl, o8, g8⟩
  replace gr := hid (gr.out.trans g8)
  replace S0 := hid (S0.out.gr g8)
  replace S1 := hid (S1.out.gr g8)
  replace Ow := hid (Ow.out.gr g8)
  replace Bx0 := hid (g8.heap Bx0.out)
  replace Bx1 := hid (g8.heap Bx1.out)
  obtain ⟨p8, q8, rfl⟩ := o8.shape
  have Og := hid o8
  have gz8 := hid g8.size
  clear o8 g8
  unfold withCode
  go_wp2_with fail
  refine (HYE.out _ _ _ _ _ Og.out.reads Ow.out.reads).mono ?_
  rintro e W9 ⟨rfl, g9⟩
  replace gr := hid (gr.out.trans g9)
  replace S0 := hid (S0.out.gr g9)
  replace S1 := hid (S1.out.gr g9)
  replace Ow := hid (Ow.out.gr g9)
  replace Og := hid (Og.out.gr g9)
  replace Bx0 := hid (g9.heap Bx0.out)
  replace Bx1 := hid (g9.heap Bx1.out)
  clear g9
  go_wp2_with fail
  refine (HTO0.out HN0.out _ _ _ S0.out).mono ?_
  rintro e W10 ⟨rfl, h10, g10⟩
  replace gr := hid (gr.out.trans g10)
  replace S0 := hid (S0.out.gr g10)
  replace S1 := hid (S1.out.gr g10)
  replace Ow := hid (Ow.out.gr g10)
  replace Og := hid (Og.out.gr g10)
  replace Bx0 := hid (g10.heap Bx0.out)
  replace Bx1 := hid (g10.heap Bx1.out)
  have Bt := hid h10
  have gz10 := hid g10.size
  have ltBt := hid (lt_of_heap h10)
  clear h10 g10
  go_wp2_with fail
  refine (HEQ0.out HN0.out _ _ _ _ _ (cellsOf_list Bx0.out) (cellsOf_list Bt.out)).mono ?_
  rintro e W11 ⟨rfl, g11⟩
  replace gr := hid (gr.out.trans g11)
  replace S0 := hid (S0.out.gr g11)
  replace S1 := hid (S1.out.gr g11)
  replace Ow := hid (Ow.out.gr g11)
  replace Og := hid (Og.out.gr g11)
  replace Bx0 := hid (g11.heap Bx0.out)
  replace Bx1 := hid (g11.heap Bx1.out)
  replace Bt := hid (g11.heap Bt.out)
  clear Bt
  clear g11
  go_wp2_with fail
  refine (HTO1.out HN1.out _ _ _ S1.out).mono ?_
  rintro e W12 ⟨rfl, h12, g12⟩
  replace gr := hid (gr.out.trans g12)
  replace S0 := hid (S0.out.gr g12)
  replace S1 := hid (S1.out.gr g12)
  replace Ow := hid (Ow.out.gr g12)
  replace Og := hid (Og.out.gr g12)
  replace Bx0 := hid (g12.heap Bx0.out)
  replace Bx1 := hid (g12.heap Bx1.out)
  have Bt := hid h12
  have gz12 := hid g12.size
  have ltBt := hid (lt_of_heap h12)
  clear h12 g12
  go_wp2_with fail
  refine (HEQ1.out HN1.out _ _ _ _ _ (cellsOf_list Bx1.out) (cellsOf_list Bt.out)).mono ?_
  rintro e W13 ⟨rfl, g13⟩
  replace gr := hid (gr.out.trans g13)
  replace S0 := hid (S0.out.gr g13)
  replace S1 := hid (S1.out.gr g13)
  replace Ow := hid (Ow.out.gr g13)
  replace Og := hid (Og.out.gr g13)
  replace Bx0 := hid (g13.heap Bx0.out)
  replace Bx1 := hid (g13.heap Bx1.out)
  replace Bt := hid (g13.heap Bt.out)
  clear Bt
  clear g13
  have Ox := hid (OwnV.ofBlock (e := 58) (sz := 3) (n := n0) Bx0.out (by rw [List.size_toArray]; exact HCL0.out) (by unfold maxLen; omega))
  clear Bx0
  go_wp2_with fail
  refine (markLog_one _ _ _ _ _ _ HCL0.out HN0.out _ Ox.out).mono ?_
  rintro e W14 ⟨rfl, -, m14⟩
  have M14 := hid m14
  clear Ox m14
  have gm : Gr w W14 := gr.out.by_ M14.out (fun b e => by cases e; have := GB.out; omega)
  replace gr := hid gm
  replace S0 := hid (Z0.out.gr gm)
  replace S1 := hid (Z1.out.gr gm)
  clear gm
  replace Ow := hid (Ow.out.by_ M14.out (fun b e => by cases e; right; exact Nat.le_refl _))
  replace Og := hid (Og.out.by_ M14.out (fun b e => by simp only [Value.ownBlock, Option.some.injEq] at e; left; have := ltBx0.out; have := gz7.out; omega))
  replace Bx1 := hid ((M14.out.block _ (lt_of_heap Bx1.out) (fun e => by simp only [Value.ownBlock, Option.some.injEq] at e; have := ltBx0.out; have := gz6.out; have := gz7.out; omega)).trans Bx1.out)
  clear M14
  have Ox := hid (OwnV.ofBlock (e := 58) (sz := 3) (n := n1) Bx1.out (by rw [List.size_toArray]; exact HCL1.out) (by unfold maxLen; omega))
  clear Bx1
  go_wp2_with fail
  refine (markLog_from _ _ _ _ _ n0 _ HCL1.out HN1.out HN0.out _ Ox.out).mono ?_
  rintro e W15 ⟨rfl, m15⟩
  have M15 := hid m15
  clear Ox m15
  have gm : Gr w W15 := gr.out.by_ M15.out (fun b e => by simp only [Value.ownBlock, Option.some.injEq] at e; have := GB.out; have := gz6.out; omega)
  replace gr := hid gm
  replace S0 := hid (Z0.out.gr gm)
  replace S1 := hid (Z1.out.gr gm)
  clear gm
  replace Ow := hid (Ow.out.by_ M15.out (fun b e => by simp only [Value.ownBlock, Option.some.injEq] at e; right; have := gz6.out; have := gz7.out; omega))
  replace Og := hid (Og.out.by_ M15.out (fun b e => by simp only [Value.ownBlock, Option.some.injEq] at e; left; have := ltBx1.out; omega))
  clear M15
  go_wp2_with fail
  refine (HYE.out _ _ _ _ _ Og.out.reads Ow.out.reads).mono ?_
  rintro e W16 ⟨rfl, g16⟩
  replace gr := hid (gr.out.trans g16)
  replace S0 := hid (S0.out.gr g16)
  replace S1 := hid (S1.out.gr g16)
  replace Ow := hid (Ow.out.gr g16)
  replace Og := hid (Og.out.gr g16)
  clear g16
  go_wp2_with fail
  refine (markStepS_one _ _ _ _ _ _ HYC.out hyl _ Og.out).mono ?_
  rintro e W17 ⟨rfl, o17, m17⟩
  have M17 := hid m17
  have rl := Og.out.row.lt
  have gm : Gr w W17 := gr.out.by_ M17.out (fun b e => by have := (rl b e).1; have := GB.out; have := gz6.out; have := gz7.out; omega)
  replace gr := hid gm
  replace S0 := hid (Z0.out.gr gm)
  replace S1 := hid (Z1.out.gr gm)
  clear gm
  replace Ow := hid (Ow.out.by_ M17.out (fun b e => by right; have := (rl b e).1; have := gz6.out; have := gz7.out; omega))
  replace Og := hid o17
  clear M17 o17 m17 rl
  go_wp2_with fail
  refine (heldStepS_one _ _ _ hyl _ Og.out.reads).mono ?_
  rintro e W18 ⟨rfl, g18⟩
  replace gr := hid (gr.out.trans g18)
  replace S0 := hid (S0.out.gr g18)
  replace S1 := hid (S1.out.gr g18)
  replace Ow := hid (Ow.out.gr g18)
  replace Og := hid (Og.out.gr g18)
  clear g18
  go_wp2_with fail
  refine (HTO0.out HN0.out _ _ _ S0.out).mono ?_
  rintro e W19 ⟨rfl, h19, g19⟩
  replace gr := hid (gr.out.trans g19)
  replace S0 := hid (S0.out.gr g19)
  replace S1 := hid (S1.out.gr g19)
  replace Ow := hid (Ow.out.gr g19)
  replace Og := hid (Og.out.gr g19)
  have Bu0 := hid h19
  have gz19 := hid g19.size
  have ltBu0 := hid (lt_of_heap h19)
  clear h19 g19
  go_wp2_with fail
  refine (HTO1.out HN1.out _ _ _ S1.out).mono ?_
  rintro e W20 ⟨rfl, h20, g20⟩
  replace gr := hid (gr.out.trans g20)
  replace S0 := hid (S0.out.gr g20)
  replace S1 := hid (S1.out.gr g20)
  replace Ow := hid (Ow.out.gr g20)
  replace Og := hid (Og.out.gr g20)
  replace Bu0 := hid (g20.heap Bu0.out)
  have Bu1 := hid h20
  have gz20 := hid g20.size
  have ltBu1 := hid (lt_of_heap h20)
  clear h20 g20
  go_wp2_with fail
  refine (HIM.out HN0.out HN1.out _ _ _ (cellsOf_list Bu0.out) (cellsOf_list Bu1.out)).mono ?_
  rintro e W21 ⟨u21, rfl, o21, g21⟩
  replace gr := hid (gr.out.trans g21)
  replace S0 := hid (S0.out.gr g21)
  replace S1 := hid (S1.out.gr g21)
  replace Ow := hid (Ow.out.gr g21)
  replace Og := hid (Og.out.gr g21)
  replace Bu0 := hid (g21.heap Bu0.out)
  replace Bu1 := hid (g21.heap Bu1.out)
  obtain ⟨p21, q21, rfl⟩ := o21.shape
  have Oh := hid o21
  have gz21 := hid g21.size
  clear o21 g21
  unfold withCode
  clear Bu0
  clear Bu1
  go_wp2_with fail
  refine (HYE.out _ _ _ _ _ Oh.out.reads Ow.out.reads).mono ?_
  rintro e W22 ⟨rfl, g22⟩
  replace gr := hid (gr.out.trans g22)
  replace S0 := hid (S0.out.gr g22)
  replace S1 := hid (S1.out.gr g22)
  replace Ow := hid (Ow.out.gr g22)
  replace Og := hid (Og.out.gr g22)
  replace Oh := hid (Oh.out.gr g22)
  clear g22
  go_wp2_with fail
  refine (heldStepS_one _ _ _ hyl _ Og.out.reads).mono ?_
  rintro e W23 ⟨rfl, g23⟩
  replace gr := hid (gr.out.trans g23)
  replace S0 := hid (S0.out.gr g23)
  replace S1 := hid (S1.out.gr g23)
  replace Ow := hid (Ow.out.gr g23)
  replace Og := hid (Og.out.gr g23)
  replace Oh := hid (Oh.out.gr g23)
  clear g23
  go_wp2_with fail
  go_ret
  exact ⟨rfl, gr.out⟩
end Go.Proofs.YtnkoakneffjkbaaDoor
