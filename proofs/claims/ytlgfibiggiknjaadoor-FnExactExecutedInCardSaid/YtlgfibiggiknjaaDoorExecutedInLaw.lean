/- ExecutedIn: the law's walk. -/
import Derived.Test.YtlgfibiggiknjaaDoorExecutedIn
import Derived.Test.YtlgfibiggiknjaaDoorEntHd
namespace Go.Proofs.YtlgfibiggiknjaaDoor
set_option linter.unusedVariables false
open Go.RowKit
set_option maxRecDepth 100000 in
set_option maxHeartbeats 3000000 in
set_option linter.unusedVariables false in
theorem FnExactExecutedIn_walk (a0 : Option Addr) (n0 cap0 : Nat) (ts0 : List En) (hl0 : n0 = ts0.length) (hm0 : n0 ≤ maxLen) (hf0 : EnFits ts0) (w : World) (hs0 : CellsOf w a0 (enCells ts0)) :
    Calls Tryd.prog 3 #[.slice a0 n0 cap0] w fun e w' => e = .returned (.bool true) ∧ Gr w w' := by
  unfold maxLen at hm0
  have hc0 : EntrysC n0 (enCells ts0) := by rw [hl0]; exact enCells_sC ts0
  have HSP := hid (fun (hn0 : n0 ≤ 1048576) => fun b0 => spec_ExecutedIn_law b0 n0 n0 ts0 hl0 hn0 hf0)
  have HIM := hid (fun (hn0 : n0 ≤ 1048576) => fun b0 => impl_ExecutedIn_law b0 n0 n0 ts0 hl0 hn0 hf0)
  have hyl : (execV ts0).length ≤ 1048576 := execV_length ts0
  have hyc : EntrysC ((execV ts0).length) (enCells (execV ts0)) := enCells_sC _
  generalize (execV ts0).length = m at *
  generalize enCells (execV ts0) = r0 at *
  generalize validC ts0 = r1 at *
  have HYE := hid (fun a b ca cb => eqEntryS_own a b ca cb m r0 hyc hyl)
  have HYC := hid hyc.1
  clear hyc
  have HTO0 := hid (fun hn a0 cap => toEntryS_own a0 cap n0 _ hc0 hn)
  have HEQ0 := hid (fun hn a b ca cb => eqLog_own a b ca cb n0 _ hc0 hn)
  have HCL0 := hid hc0.1
  have S0 := hid hs0
  clear hs0 hc0 hl0 hf0
  have gr := hid (Gr.refl w)
  have Z0 := S0
  go_enter Tryd.func3, Tryd.ntmps3
  go_wp2_with fail
  refine (szEntryS_any _ _ _ 1048576 (by omega) (by omega) _).mono ?_
  rintro e W1 ⟨⟨rr0, rfl, hr0⟩, rfl⟩
  by_cases hrr0 : rr0 < 0
  · go_wp2_with fail
    go_ret
    exact ⟨rfl, gr.out⟩
  have hn0 : n0 ≤ 1048576 := by rcases hr0 with h | h <;> omega
  have HN0 := hid hn0
  go_wp2_with fail
  refine (HTO0.out HN0.out _ _ _ S0.out).mono ?_
  rintro e W2 ⟨rfl, h2, g2⟩
  replace gr := hid (gr.out.trans g2)
  replace S0 := hid (S0.out.gr g2)
  have Bs0 := hid h2
  have gz2 := hid g2.size
  have ltBs0 := hid (lt_of_heap h2)
  clear h2 g2
  go_wp2_with fail
  refine (HSP.out HN0.out _ _ (cellsOf_list Bs0.out)).mono ?_
  rintro e W3 ⟨u3, rfl, o3, g3⟩
  replace gr := hid (gr.out.trans g3)
  replace S0 := hid (S0.out.gr g3)
  replace Bs0 := hid (g3.heap Bs0.out)
  obtain ⟨p3, q3, rfl⟩ := o3.shape
  have Ow := hid o3
  have gz3 := hid g3.size
  clear o3 g3
  unfold withCode
  clear Bs0
  have GB := hid gr.out.size
  go_wp2_with fail
  refine (HTO0.out HN0.out _ _ _ S0.out).mono ?_
  rintro e W4 ⟨rfl, h4, g4⟩
  replace gr := hid (gr.out.trans g4)
  replace S0 := hid (S0.out.gr g4)
  replace Ow := hid (Ow.out.gr g4)
  have Bx0 := hid h4
  have gz4 := hid g4.size
  have ltBx0 := hid (lt_of_heap h4)
  clear h4 g4
  go_wp2_with fail
  refine (HIM.out HN0.out _ _ (cellsOf_list Bx0.out)).mono ?_
  rintro e W5 ⟨u5, rfl, o5, g5⟩
  replace gr := hid (gr.out.trans g5)
  replace S0 := hid (S0.out.gr g5)
  replace Ow := hid (Ow.out.gr g5)
  replace Bx0 := hid (g5.heap Bx0.out)
  obtain ⟨p5, q5, rfl⟩ := o5.shape
  have Og := hid o5
  have gz5 := hid g5.size
  clear o5 g5
  unfold withCode
  go_wp2_with fail
  refine (HYE.out _ _ _ _ _ Og.out.reads Ow.out.reads).mono ?_
  rintro e W6 ⟨rfl, g6⟩
  replace gr := hid (gr.out.trans g6)
  replace S0 := hid (S0.out.gr g6)
  replace Ow := hid (Ow.out.gr g6)
  replace Og := hid (Og.out.gr g6)
  replace Bx0 := hid (g6.heap Bx0.out)
  clear g6
  go_wp2_with fail
  refine (HTO0.out HN0.out _ _ _ S0.out).mono ?_
  rintro e W7 ⟨rfl, h7, g7⟩
  replace gr := hid (gr.out.trans g7)
  replace S0 := hid (S0.out.gr g7)
  replace Ow := hid (Ow.out.gr g7)
  replace Og := hid (Og.out.gr g7)
  replace Bx0 := hid (g7.heap Bx0.out)
  have Bt := hid h7
  have gz7 := hid g7.size
  have ltBt := hid (lt_of_heap h7)
  clear h7 g7
  go_wp2_with fail
  refine (HEQ0.out HN0.out _ _ _ _ _ (cellsOf_list Bx0.out) (cellsOf_list Bt.out)).mono ?_
  rintro e W8 ⟨rfl, g8⟩
  replace gr := hid (gr.out.trans g8)
  replace S0 := hid (S0.out.gr g8)
  replace Ow := hid (Ow.out.gr g8)
  replace Og := hid (Og.out.gr g8)
  replace Bx0 := hid (g8.heap Bx0.out)
  replace Bt := hid (g8.heap Bt.out)
  clear Bt
  clear g8
  have Ox := hid (OwnV.ofBlock (e := 70) (sz := 3) (n := n0) Bx0.out (by rw [List.size_toArray]; exact HCL0.out) (by unfold maxLen; omega))
  clear Bx0
  go_wp2_with fail
  refine (markLog_one _ _ _ _ _ _ HCL0.out HN0.out _ Ox.out).mono ?_
  rintro e W9 ⟨rfl, -, m9⟩
  have M9 := hid m9
  clear Ox m9
  have gm : Gr w W9 := gr.out.by_ M9.out (fun b e => by cases e; have := GB.out; omega)
  replace gr := hid gm
  replace S0 := hid (Z0.out.gr gm)
  clear gm
  replace Ow := hid (Ow.out.by_ M9.out (fun b e => by cases e; right; exact Nat.le_refl _))
  replace Og := hid (Og.out.by_ M9.out (fun b e => by simp only [Value.ownBlock, Option.some.injEq] at e; left; have := ltBx0.out; omega))
  clear M9
  go_wp2_with fail
  refine (HYE.out _ _ _ _ _ Og.out.reads Ow.out.reads).mono ?_
  rintro e W10 ⟨rfl, g10⟩
  replace gr := hid (gr.out.trans g10)
  replace S0 := hid (S0.out.gr g10)
  replace Ow := hid (Ow.out.gr g10)
  replace Og := hid (Og.out.gr g10)
  clear g10
  go_wp2_with fail
  refine (markEntryS_one _ _ _ _ _ _ HYC.out hyl _ Og.out).mono ?_
  rintro e W11 ⟨rfl, o11, m11⟩
  have M11 := hid m11
  have rl := Og.out.row.lt
  have gm : Gr w W11 := gr.out.by_ M11.out (fun b e => by have := (rl b e).1; have := GB.out; have := gz4.out; omega)
  replace gr := hid gm
  replace S0 := hid (Z0.out.gr gm)
  clear gm
  replace Ow := hid (Ow.out.by_ M11.out (fun b e => by right; have := (rl b e).1; have := gz4.out; omega))
  replace Og := hid o11
  clear M11 o11 m11 rl
  go_wp2_with fail
  refine (heldEntryS_one _ _ _ hyl _ Og.out.reads).mono ?_
  rintro e W12 ⟨rfl, g12⟩
  replace gr := hid (gr.out.trans g12)
  replace S0 := hid (S0.out.gr g12)
  replace Ow := hid (Ow.out.gr g12)
  replace Og := hid (Og.out.gr g12)
  clear g12
  go_wp2_with fail
  refine (HTO0.out HN0.out _ _ _ S0.out).mono ?_
  rintro e W13 ⟨rfl, h13, g13⟩
  replace gr := hid (gr.out.trans g13)
  replace S0 := hid (S0.out.gr g13)
  replace Ow := hid (Ow.out.gr g13)
  replace Og := hid (Og.out.gr g13)
  have Bu0 := hid h13
  have gz13 := hid g13.size
  have ltBu0 := hid (lt_of_heap h13)
  clear h13 g13
  go_wp2_with fail
  refine (HIM.out HN0.out _ _ (cellsOf_list Bu0.out)).mono ?_
  rintro e W14 ⟨u14, rfl, o14, g14⟩
  replace gr := hid (gr.out.trans g14)
  replace S0 := hid (S0.out.gr g14)
  replace Ow := hid (Ow.out.gr g14)
  replace Og := hid (Og.out.gr g14)
  replace Bu0 := hid (g14.heap Bu0.out)
  obtain ⟨p14, q14, rfl⟩ := o14.shape
  have Oh := hid o14
  have gz14 := hid g14.size
  clear o14 g14
  unfold withCode
  clear Bu0
  go_wp2_with fail
  refine (HYE.out _ _ _ _ _ Oh.out.reads Ow.out.reads).mono ?_
  rintro e W15 ⟨rfl, g15⟩
  replace gr := hid (gr.out.trans g15)
  replace S0 := hid (S0.out.gr g15)
  replace Ow := hid (Ow.out.gr g15)
  replace Og := hid (Og.out.gr g15)
  replace Oh := hid (Oh.out.gr g15)
  clear g15
  go_wp2_with fail
  refine (heldEntryS_one _ _ _ hyl _ Og.out.reads).mono ?_
  rintro e W16 ⟨rfl, g16⟩
  replace gr := hid (gr.out.trans g16)
  replace S0 := hid (S0.out.gr g16)
  replace Ow := hid (Ow.out.gr g16)
  replace Og := hid (Og.out.gr g16)
  replace Oh := hid (Oh.out.gr g16)
  clear g16
  go_wp2_with fail
  go_ret
  exact ⟨rfl, gr.out⟩
end Go.Proofs.YtlgfibiggiknjaaDoor
