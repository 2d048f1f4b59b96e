/- FaultsOf: the law's walk. -/
import Derived.Test.YtlgfibiggiknjaaDoorFaultsOfP
import Derived.Test.YtlgfibiggiknjaaDoorStoryS
namespace Go.Proofs.YtlgfibiggiknjaaDoor
set_option linter.unusedVariables false
open Go.RowKit
set_option maxRecDepth 100000 in
set_option maxHeartbeats 3000000 in
set_option linter.unusedVariables false in
theorem FnExactFaultsOf_walk (a0 : Option Addr) (n0 cap0 : Nat) (ts0 : List En) (hl0 : n0 = ts0.length) (hm0 : n0 ≤ maxLen) (hf0 : EnFits ts0) (a1 : Option Addr) (n1 cap1 : Nat) (ts1 : List En) (hl1 : n1 = ts1.length) (hm1 : n1 ≤ maxLen) (hf1 : EnFits ts1) (w : World) (hs0 : CellsOf w a0 (enCells ts0)) (hs1 : CellsOf w a1 (enCells ts1)) :
    Calls Tryd.prog 7 #[.slice a0 n0 cap0, .slice a1 n1 cap1] w fun e w' => e = .returned (.bool true) ∧ Gr w w' := by
  unfold maxLen at hm0
  have hc0 : EntrysC n0 (enCells ts0) := by rw [hl0]; exact enCells_sC ts0
  unfold maxLen at hm1
  have hc1 : EntrysC n1 (enCells ts1) := by rw [hl1]; exact enCells_sC ts1
  have HSP := hid (fun (hn0 : n0 ≤ 1048576) (hn1 : n1 ≤ 1048576) => fun b0 b1 => spec_FaultsOf_law b0 n0 n0 ts0 hl0 hn0 hf0 b1 n1 n1 ts1 hl1 hn1 hf1)
  have HIM := hid (fun (hn0 : n0 ≤ 1048576) (hn1 : n1 ≤ 1048576) => fun b0 b1 => impl_FaultsOf_law b0 n0 n0 ts0 hl0 hn0 hf0 b1 n1 n1 ts1 hl1 hn1 hf1)
  generalize faultsV ts0 ts1 = r0 at *
  generalize code2 ts0 ts1 = r1 at *
  have HTO0 := hid (fun hn a0 cap => toEntryS_own a0 cap n0 _ hc0 hn)
  have HEQ0 := hid (fun hn a b ca cb => eqLog_own a b ca cb n0 _ hc0 hn)
  have HCL0 := hid hc0.1
  have S0 := hid hs0
  have HTO1 := hid (fun hn a0 cap => toEntryS_own a0 cap n1 _ hc1 hn)
  have HEQ1 := hid (fun hn a b ca cb => eqLog_own a b ca cb n1 _ hc1 hn)
  have HCL1 := hid hc1.1
  have S1 := hid hs1
  clear hs0 hc0 hl0 hf0 hs1 hc1 hl1 hf1
  have gr := hid (Gr.refl w)
  have Z0 := S0
  have Z1 := S1
  go_enter Tryd.func7, Tryd.ntmps7
  go_wp2_with fail
  refine (szEntryS_any _ _ _ 1048576 (by omega) (by omega) _).mono ?_
  rintro e W1 ⟨⟨rr0, rfl, hr0⟩, rfl⟩
  by_cases hrr0 : rr0 < 0
  · go_wp2_with fail
    go_ret
    exact ⟨rfl, gr.out⟩
  have hn0 : n0 ≤ 1048576 := by rcases hr0 with h | h <;> omega
  have HN0 := hid hn0
  obtain ⟨lf0, rfl⟩ := Int.eq_ofNat_of_zero_le (by omega : 0 ≤ rr0)
  have hlf0 : lf0 ≤ 1048576 := by rcases hr0 with h | h <;> omega
  go_wp2_with fail
  refine (szEntryS_any _ _ _ lf0 (by omega) (by omega) _).mono ?_
  rintro e W2 ⟨⟨rr1, rfl, hr1⟩, rfl⟩
  by_cases hrr1 : rr1 < 0
  · go_wp2_with fail
    go_ret
    exact ⟨rfl, gr.out⟩
  have hn1 : n1 ≤ 1048576 := by rcases hr1 with h | h <;> omega
  have HN1 := hid hn1
  go_wp2_with fail
  refine (HTO0.out HN0.out _ _ _ S0.out).mono ?_
  rintro e W3 ⟨rfl, h3, g3⟩
  replace gr := hid (gr.out.trans g3)
  replace S0 := hid (S0.out.gr g3)
  replace S1 := hid (S1.out.gr g3)
  have Bs0 := hid h3
  have gz3 := hid g3.size
  have ltBs0 := hid (lt_of_heap h3)
  clear h3 g3
  go_wp2_with fail
  refine (HTO1.out HN1.out _ _ _ S1.out).mono ?_
  rintro e W4 ⟨rfl, h4, g4⟩
  replace gr := hid (gr.out.trans g4)
  replace S0 := hid (S0.out.gr g4)
  replace S1 := hid (S1.out.gr g4)
  replace Bs0 := hid (g4.heap Bs0.out)
  have Bs1 := hid h4
  have gz4 := hid g4.size
  have ltBs1 := hid (lt_of_heap h4)
  clear h4 g4
  go_wp2_with fail
  refine (HSP.out HN0.out HN1.out _ _ _ (cellsOf_list Bs0.out) (cellsOf_list Bs1.out)).mono ?_
  rintro e W5 ⟨rfl, g5⟩
  replace gr := hid (gr.out.trans g5)
  replace S0 := hid (S0.out.gr g5)
  replace S1 := hid (S1.out.gr g5)
  replace Bs0 := hid (g5.heap Bs0.out)
  replace Bs1 := hid (g5.heap Bs1.out)
  clear g5
  clear Bs0
  clear Bs1
  go_wp2_with fail
  refine (HTO0.out HN0.out _ _ _ S0.out).mono ?_
  rintro e W6 ⟨rfl, h6, g6⟩
  replace gr := hid (gr.out.trans g6)
  replace S0 := hid (S0.out.gr g6)
  replace S1 := hid (S1.out.gr g6)
  have Bx0 := hid h6
  have gz6 := hid g6.size
  have ltBx0 := hid (lt_of_heap h6)
  clear h6 g6
  go_wp2_with fail
  refine (HTO1.out HN1.out _ _ _ S1.out).mono ?_
  rintro e W7 ⟨rfl, h7, g7⟩
  replace gr := hid (gr.out.trans g7)
  replace S0 := hid (S0.out.gr g7)
  replace S1 := hid (S1.out.gr g7)
  replace Bx0 := hid (g7.heap Bx0.out)
  have Bx1 := hid h7
  have gz7 := hid g7.size
  have ltBx1 := hid (lt_of_heap h7)
  clear h7 g7
  go_wp2_with fail
  refine (HIM.out HN0.out HN1.out _ _ _ (cellsOf_list Bx0.out) (cellsOf_list Bx1.out)).mono ?_
  rintro e W8 ⟨rfl, g8⟩
  replace gr := hid (gr.out.trans g8)
  replace S0 := hid (S0.out.gr g8)
  replace S1 := hid (S1.out.gr g8)
  replace Bx0 := hid (g8.heap Bx0.out)
  replace Bx1 := hid (g8.heap Bx1.out)
  clear g8
  go_wp2_with fail
  refine (HTO0.out HN0.out _ _ _ S0.out).mono ?_
  rintro e W9 ⟨rfl, h9, g9⟩
  replace gr := hid (gr.out.trans g9)
  replace S0 := hid (S0.out.gr g9)
  replace S1 := hid (S1.out.gr g9)
  replace Bx0 := hid (g9.heap Bx0.out)
  replace Bx1 := hid (g9.heap Bx1.out)
  have Bt := hid h9
  have gz9 := hid g9.size
  have ltBt := hid (lt_of_heap h9)
  clear h9 g9
  go_wp2_with fail
  refine (HEQ0.out HN0.out _ _ _ _ _ (cellsOf_list Bx0.out) (cellsOf_list Bt.out)).mono ?_
  rintro e W10 ⟨rfl, g10⟩
  replace gr := hid (gr.out.trans g10)
  replace S0 := hid (S0.out.gr g10)
  replace S1 := hid (S1.out.gr g10)
  replace Bx0 := hid (g10.heap Bx0.out)
  replace Bx1 := hid (g10.heap Bx1.out)
  replace Bt := hid (g10.heap Bt.out)
  clear Bt
  clear g10
  go_wp2_with fail
  refine (HTO1.out HN1.out _ _ _ S1.out).mono ?_
  rintro e W11 ⟨rfl, h11, g11⟩
  replace gr := hid (gr.out.trans g11)
  replace S0 := hid (S0.out.gr g11)
  replace S1 := hid (S1.out.gr g11)
  replace Bx0 := hid (g11.heap Bx0.out)
  replace Bx1 := hid (g11.heap Bx1.out)
  have Bt := hid h11
  have gz11 := hid g11.size
  have ltBt := hid (lt_of_heap h11)
  clear h11 g11
  go_wp2_with fail
  refine (HEQ1.out HN1.out _ _ _ _ _ (cellsOf_list Bx1.out) (cellsOf_list Bt.out)).mono ?_
  rintro e W12 ⟨rfl, g12⟩
  replace gr := hid (gr.out.trans g12)
  replace S0 := hid (S0.out.gr g12)
  replace S1 := hid (S1.out.gr g12)
  replace Bx0 := hid (g12.heap Bx0.out)
  replace Bx1 := hid (g12.heap Bx1.out)
  replace Bt := hid (g12.heap Bt.out)
  clear Bt
  clear g12
  go_wp2_with fail
  go_ret
  exact ⟨rfl, gr.out⟩
end Go.Proofs.YtlgfibiggiknjaaDoor
