/- CheckStory: the law's walk. -/
import Derived.Test.YtlgfibiggiknjaaDoorCheckStory
namespace Go.Proofs.YtlgfibiggiknjaaDoor
set_option linter.unusedVariables false
open Go.RowKit
set_option maxRecDepth 100000 in
set_option maxHeartbeats 3000000 in
set_option linter.unusedVariables false in
theorem FnExactCheckStory_walk (a0 : Option Addr) (n0 cap0 : Nat) (ts0 : List En) (hl0 : n0 = ts0.length) (hm0 : n0 ≤ maxLen) (hf0 : EnFits ts0) (a1 : Option Addr) (n1 cap1 : Nat) (ts1 : List En) (hl1 : n1 = ts1.length) (hm1 : n1 ≤ maxLen) (hf1 : EnFits ts1) (a2 : Option Addr) (n2 cap2 : Nat) (ts2 : List (Int × Int)) (hl2 : n2 = ts2.length) (hm2 : n2 ≤ maxLen) (hf2 : StFits ts2) (w : World) (hs0 : CellsOf w a0 (enCells ts0)) (hs1 : CellsOf w a1 (enCells ts1)) (hs2 : CellsOf w a2 (flCells ts2)) :
    Calls Tryd.prog 9 #[.slice a0 n0 cap0, .slice a1 n1 cap1, .slice a2 n2 cap2] w fun e w' => e = .returned (.bool true) ∧ Gr w w' := by
  unfold maxLen at hm0
  have hc0 : EntrysC n0 (enCells ts0) := by rw [hl0]; exact enCells_sC ts0
  unfold maxLen at hm1
  have hc1 : EntrysC n1 (enCells ts1) := by rw [hl1]; exact enCells_sC ts1
  unfold maxLen at hm2
  have hc2 : StepsC n2 (flCells ts2) := by rw [hl2]; exact flCells_sC ts2
  have HSP := hid (fun (hn0 : n0 ≤ 1048576) (hn1 : n1 ≤ 1048576) (hn2 : n2 ≤ 1048576) => fun b0 b1 b2 => spec_CheckStory_law b0 n0 n0 ts0 hl0 hn0 hf0 b1 n1 n1 ts1 hl1 hn1 hf1 b2 n2 n2 ts2 hl2 hn2 hf2)
  have HIM := hid (fun (hn0 : n0 ≤ 1048576) (hn1 : n1 ≤ 1048576) (hn2 : n2 ≤ 1048576) => fun b0 b1 b2 => impl_CheckStory_law b0 n0 n0 ts0 hl0 hn0 hf0 b1 n1 n1 ts1 hl1 hn1 hf1 b2 n2 n2 ts2 hl2 hn2 hf2)
  generalize checkV ts0 ts1 ts2 = r0 at *
  generalize checkC ts0 ts1 ts2 = r1 at *
  have HTO0 := hid (fun hn a0 cap => toEntryS_own a0 cap n0 _ hc0 hn)
  have HEQ0 := hid (fun hn a b ca cb => eqLog_own a b ca cb n0 _ hc0 hn)
  have HCL0 := hid hc0.1
  have S0 := hid hs0
  have HTO1 := hid (fun hn a0 cap => toEntryS_own a0 cap n1 _ hc1 hn)
  have HEQ1 := hid (fun hn a b ca cb => eqLog_own a b ca cb n1 _ hc1 hn)
  have HCL1 := hid hc1.1
  have S1 := hid hs1
  have HTO2 := hid (fun hn a0 cap => toStepS_own a0 cap n2 _ hc2 hn)
  have HEQ2 := hid (fun hn a b ca cb => eqStepS_own a b ca cb n2 _ hc2 hn)
  have HCL2 := hid hc2.1
  have S2 := hid hs2
  clear hs0 hc0 hl0 hf0 hs1 hc1 hl1 hf1 hs2 hc2 hl2 hf2
  have gr := hid (Gr.refl w)
  have Z0 := S0
  have Z1 := S1
  have Z2 := S2
  go_enter Tryd.func9, Tryd.ntmps9
  go_wp2_with fail
  refine (szEntryS_any _ _ _ 1048576 (by omega) (by omega) _).mono ?_
  rintro e W1 ⟨⟨rr0, rfl, hr0⟩, rfl⟩
  by_cases hrr0 : rr0 < 0
  · go_wp2_with fail
    go_ret
    exact ⟨rfl, gr.out⟩
  have hn0 : n0 ≤ 1048576 := by rcases hr0 with h | h <;> omega
  have HN0 := hid hn0
  obtain ⟨lf0, rfl⟩ := Int.eq_ofNat_of_zero_le (by omega : 0 ≤ rr0)
  have hlf0 : lf0 ≤ 1048576 := by rcases hr0 with h | h <;> omega
  go_wp2_with fail
  refine (szEntryS_any _ _ _ lf0 (by omega) (by omega) _).mono ?_
  rintro e W2 ⟨⟨rr1, rfl, hr1⟩, rfl⟩
  by_cases hrr1 : rr1 < 0
  · go_wp2_with fail
    go_ret
    exact ⟨rfl, gr.out⟩
  have hn1 : n1 ≤ 1048576 := by rcases hr1 with h | h <;> omega
  have HN1 := hid hn1
  obtain ⟨lf1, rfl⟩ := Int.eq_ofNat_of_zero_le (by omega : 0 ≤ rr1)
  have hlf1 : lf1 ≤ 1048576 := by rcases hr1 with h | h <;> omega
  go_wp2_with fail
  refine (szStepS_any _ _ _ lf1 (by omega) (by omega) _).mono ?_
  rintro e W3 ⟨⟨rr2, rfl, hr2⟩, rfl⟩
  by_cases hrr2 : rr2 < 0
  · go_wp2_with fail
    go_ret
    exact ⟨rfl, gr.out⟩
  have hn2 : n2 ≤ 1048576 := by rcases hr2 with h | h <;> omega
  have HN2 := hid hn2
  go_wp2_with fail
  refine (HTO0.out HN0.out _ _ _ S0.out).mono ?_
  rintro e W4 ⟨rfl, h4, g4⟩
  replace gr := hid (gr.out.trans g4)
  replace S0 := hid (S0.out.gr g4)
  replace S1 := hid (S1.out.gr g4)
  replace S2 := hid (S2.out.gr g4)
  have Bs0 := hid h4
  have gz4 := hid g4.size
  have ltBs0 := hid (lt_of_heap h4)
  clear h4 g4
  go_wp2_with fail
  refine (HTO1.out HN1.out _ _ _ S1.out).mono ?_
  rintro e W5 ⟨rfl, h5, g5⟩
  replace gr := hid (gr.out.trans g5)
  replace S0 := hid (S0.out.gr g5)
  replace S1 := hid (S1.out.gr g5)
  replace S2 := hid (S2.out.gr g5)
  replace Bs0 := hid (g5.heap Bs0.out)
  have Bs1 := hid h5
  have gz5 := hid g5.size
  have ltBs1 := hid (lt_of_heap h5)
  clear h5 g5
  go_wp2_with fail
  refine (HTO2.out HN2.out _ _ _ S2.out).mono ?_
  rintro e W6 ⟨rfl, h6, g6⟩
  replace gr := hid (gr.out.trans g6)
  replace S0 := hid (S0.out.gr g6)
  replace S1 := hid (S1.out.gr g6)
  replace S2 := hid (S2.out.gr g6)
  replace Bs0 := hid (g6.heap Bs0.out)
  replace Bs1 := hid (g6.heap Bs1.out)
  have Bs2 := hid h6
  have gz6 := hid g6.size
  have ltBs2 := hid (lt_of_heap h6)
  clear h6 g6
  go_wp2_with fail
  refine (HSP.out HN0.out HN1.out HN2.out _ _ _ _ (cellsOf_list Bs0.out) (cellsOf_list Bs1.out) (cellsOf_list Bs2.out)).mono ?_
  rintro e W7 ⟨rfl, g7⟩
  replace gr := hid (gr.out.trans g7)
  replace S0 := hid (S0.out.gr g7)
  replace S1 := hid (S1.out.gr g7)
  replace S2 := hid (S2.out.gr g7)
  replace Bs0 := hid (g7.heap Bs0.out)
  replace Bs1 := hid (g7.heap Bs1.out)
  replace Bs2 := hid (g7.heap Bs2.out)
  clear g7
  clear Bs0
  clear Bs1
  clear Bs2
  go_wp2_with fail
  refine (HTO0.out HN0.out _ _ _ S0.out).mono ?_
  rintro e W8 ⟨rfl, h8, g8⟩
  replace gr := hid (gr.out.trans g8)
  replace S0 := hid (S0.out.gr g8)
  replace S1 := hid (S1.out.gr g8)
  replace S2 := hid (S2.out.gr g8)
  have Bx0 := hid h8
  have gz8 := hid g8.size
  have ltBx0 := hid (lt_of_heap h8)
  clear h8 g8
  go_wp2_with fail
  refine (HTO1.out HN1.out _ _ _ S1.out).mono ?_
  rintro e W9 ⟨rfl, h9, g9⟩
  replace gr := hid (gr.out.trans g9)
  replace S0 := hid (S0.out.gr g9)
  replace S1 := hid (S1.out.gr g9)
  replace S2 := hid (S2.out.gr g9)
  replace Bx0 := hid (g9.heap Bx0.out)
  have Bx1 := hid h9
  have gz9 := hid g9.size
  have ltBx1 := hid (lt_of_heap h9)
  clear h9 g9
  go_wp2_with fail
  refine (HTO2.out HN2.out _ _ _ S2.out).mono ?_
  rintro e W10 ⟨rfl, h10, g10⟩
  replace gr := hid (gr.out.trans g10)
  replace S0 := hid (S0.out.gr g10)
  replace S1 := hid (S1.out.gr g10)
  replace S2 := hid (S2.out.gr g10)
  replace Bx0 := hid (g10.heap Bx0.out)
  replace Bx1 := hid (g10.heap Bx1.out)
  have Bx2 := hid h10
  have gz10 := hid g10.size
  have ltBx2 := hid (lt_of_heap h10)
  clear h10 g10
  go_wp2_with fail
  refine (HIM.out HN0.out HN1.out HN2.out _ _ _ _ (cellsOf_list Bx0.out) (cellsOf_list Bx1.out) (cellsOf_list Bx2.out)).mono ?_
  rintro e W11 ⟨rfl, g11⟩
  replace gr := hid (gr.out.trans g11)
  replace S0 := hid (S0.out.gr g11)
  replace S1 := hid (S1.out.gr g11)
  replace S2 := hid (S2.out.gr g11)
  replace Bx0 := hid (g11.heap Bx0.out)
  replace Bx1 := hid (g11.heap Bx1.out)
  replace Bx2 := hid (g11.heap Bx2.out)
  clear g11
  go_wp2_with fail
  refine (HTO0.out HN0.out _ _ _ S0.out).mono ?_
  rintro e W12 ⟨rfl, h12, g12⟩
  replace gr := hid (gr.out.trans g12)
  replace S0 := hid (S0.out.gr g12)
  replace S1 := hid (S1.out.gr g12)
  replace S2 := hid (S2.out.gr g12)
  replace Bx0 := hid (g12.heap Bx0.out)
  replace Bx1 := hid (g12.heap Bx1.out)
  replace Bx2 := hid (g12.heap Bx2.out)
  have Bt := hid h12
  have gz12 := hid g12.size
  have ltBt := hid (lt_of_heap h12)
  clear h12 g12
  go_wp2_with fail
  refine (HEQ0.out HN0.out _ _ _ _ _ (cellsOf_list Bx0.out) (cellsOf_list Bt.out)).mono ?_
  rintro e W13 ⟨rfl, g13⟩
  replace gr := hid (gr.out.trans g13)
  replace S0 := hid (S0.out.gr g13)
  replace S1 := hid (S1.out.gr g13)
  replace S2 := hid (S2.out.gr g13)
  replace Bx0 := hid (g13.heap Bx0.out)
  replace Bx1 := hid (g13.heap Bx1.out)
  replace Bx2 := hid (g13.heap Bx2.out)
  replace Bt := hid (g13.heap Bt.out)
  clear Bt
  clear g13
  go_wp2_with fail
  refine (HTO1.out HN1.out _ _ _ S1.out).mono ?_
  rintro e W14 ⟨rfl, h14, g14⟩
  replace gr := hid (gr.out.trans g14)
  replace S0 := hid (S0.out.gr g14)
  replace S1 := hid (S1.out.gr g14)
  replace S2 := hid (S2.out.gr g14)
  replace Bx0 := hid (g14.heap Bx0.out)
  replace Bx1 := hid (g14.heap Bx1.out)
  replace Bx2 := hid (g14.heap Bx2.out)
  have Bt := hid h14
  have gz14 := hid g14.size
  have ltBt := hid (lt_of_heap h14)
  clear h14 g14
  go_wp2_with fail
  refine (HEQ1.out HN1.out _ _ _ _ _ (cellsOf_list Bx1.out) (cellsOf_list Bt.out)).mono ?_
  rintro e W15 ⟨rfl, g15⟩
  replace gr := hid (gr.out.trans g15)
  replace S0 := hid (S0.out.gr g15)
  replace S1 := hid (S1.out.gr g15)
  replace S2 := hid (S2.out.gr g15)
  replace Bx0 := hid (g15.heap Bx0.out)
  replace Bx1 := hid (g15.heap Bx1.out)
  replace Bx2 := hid (g15.heap Bx2.out)
  replace Bt := hid (g15.heap Bt.out)
  clear Bt
  clear g15
  go_wp2_with fail
  refine (HTO2.out HN2.out _ _ _ S2.out).mono ?_
  rintro e W16 ⟨rfl, h16, g16⟩
  replace gr := hid (gr.out.trans g16)
  replace S0 := hid (S0.out.gr g16)
  replace S1 := hid (S1.out.gr g16)
  replace S2 := hid (S2.out.gr g16)
  replace Bx0 := hid (g16.heap Bx0.out)
  replace Bx1 := hid (g16.heap Bx1.out)
  replace Bx2 := hid (g16.heap Bx2.out)
  have Bt := hid h16
  have gz16 := hid g16.size
  have ltBt := hid (lt_of_heap h16)
  clear h16 g16
  go_wp2_with fail
  refine (HEQ2.out HN2.out _ _ _ _ _ (cellsOf_list Bx2.out) (cellsOf_list Bt.out)).mono ?_
  rintro e W17 ⟨rfl, g17⟩
  replace gr := hid (gr.out.trans g17)
  replace S0 := hid (S0.out.gr g17)
  replace S1 := hid (S1.out.gr g17)
  replace S2 := hid (S2.out.gr g17)
  replace Bx0 := hid (g17.heap Bx0.out)
  replace Bx1 := hid (g17.heap Bx1.out)
  replace Bx2 := hid (g17.heap Bx2.out)
  replace Bt := hid (g17.heap Bt.out)
  clear Bt
  clear g17
  go_wp2_with fail
  go_ret
  exact ⟨rfl, gr.out⟩
end Go.Proofs.YtlgfibiggiknjaaDoor
