/- LongestUp: the law's walk. -/
import Derived.Test.YtlgfibiggiknjaaDoorLongestS
namespace Go.Proofs.YtlgfibiggiknjaaDoor
set_option linter.unusedVariables false
open Go.RowKit
set_option maxRecDepth 100000 in
set_option maxHeartbeats 3000000 in
set_option linter.unusedVariables false in
theorem FnExactLongestUp_walk (a0 : Option Addr) (n0 cap0 : Nat) (ts0 : List En) (hl0 : n0 = ts0.length) (hm0 : n0 ≤ maxLen) (hf0 : EnFits ts0) (w : World) (hs0 : CellsOf w a0 (enCells ts0)) :
    Calls Tryd.prog 4 #[.slice a0 n0 cap0] w fun e w' => e = .returned (.bool true) ∧ Gr w w' := by
  unfold maxLen at hm0
  have hc0 : EntrysC n0 (enCells ts0) := by rw [hl0]; exact enCells_sC ts0
  have HSP := hid (fun (hn0 : n0 ≤ 1048576) => fun b0 => spec_LongestUp_law b0 n0 n0 ts0 hl0 hn0 hf0)
  have HIM := hid (fun (hn0 : n0 ≤ 1048576) => fun b0 => impl_LongestUp_law b0 n0 n0 ts0 hl0 hn0 hf0)
  generalize longV ts0 = r0 at *
  generalize longL ts0 = r1 at *
  generalize longC ts0 = r2 at *
  have HTO0 := hid (fun hn a0 cap => toEntryS_own a0 cap n0 _ hc0 hn)
  have HEQ0 := hid (fun hn a b ca cb => eqLog_own a b ca cb n0 _ hc0 hn)
  have HCL0 := hid hc0.1
  have S0 := hid hs0
  clear hs0 hc0 hl0 hf0
  have gr := hid (Gr.refl w)
  have Z0 := S0
  go_enter Tryd.func4, Tryd.ntmps4
  go_wp2_with fail
  refine (szEntryS_any _ _ _ 1048576 (by omega) (by omega) _).mono ?_
  rintro e W1 ⟨⟨rr0, rfl, hr0⟩, rfl⟩
  by_cases hrr0 : rr0 < 0
  · go_wp2_with fail
    go_ret
    exact ⟨rfl, gr.out⟩
  have hn0 : n0 ≤ 1048576 := by rcases hr0 with h | h <;> omega
  have HN0 := hid hn0
  go_wp2_with fail
  refine (HTO0.out HN0.out _ _ _ S0.out).mono ?_
  rintro e W2 ⟨rfl, h2, g2⟩
  replace gr := hid (gr.out.trans g2)
  replace S0 := hid (S0.out.gr g2)
  have Bs0 := hid h2
  have gz2 := hid g2.size
  have ltBs0 := hid (lt_of_heap h2)
  clear h2 g2
  go_wp2_with fail
  refine (HSP.out HN0.out _ _ (cellsOf_list Bs0.out)).mono ?_
  rintro e W3 ⟨rfl, g3⟩
  replace gr := hid (gr.out.trans g3)
  replace S0 := hid (S0.out.gr g3)
  replace Bs0 := hid (g3.heap Bs0.out)
  clear g3
  clear Bs0
  go_wp2_with fail
  refine (HTO0.out HN0.out _ _ _ S0.out).mono ?_
  rintro e W4 ⟨rfl, h4, g4⟩
  replace gr := hid (gr.out.trans g4)
  replace S0 := hid (S0.out.gr g4)
  have Bx0 := hid h4
  have gz4 := hid g4.size
  have ltBx0 := hid (lt_of_heap h4)
  clear h4 g4
  go_wp2_with fail
  refine (HIM.out HN0.out _ _ (cellsOf_list Bx0.out)).mono ?_
  rintro e W5 ⟨rfl, g5⟩
  replace gr := hid (gr.out.trans g5)
  replace S0 := hid (S0.out.gr g5)
  replace Bx0 := hid (g5.heap Bx0.out)
  clear g5
  go_wp2_with fail
  refine (HTO0.out HN0.out _ _ _ S0.out).mono ?_
  rintro e W6 ⟨rfl, h6, g6⟩
  replace gr := hid (gr.out.trans g6)
  replace S0 := hid (S0.out.gr g6)
  replace Bx0 := hid (g6.heap Bx0.out)
  have Bt := hid h6
  have gz6 := hid g6.size
  have ltBt := hid (lt_of_heap h6)
  clear h6 g6
  go_wp2_with fail
  refine (HEQ0.out HN0.out _ _ _ _ _ (cellsOf_list Bx0.out) (cellsOf_list Bt.out)).mono ?_
  rintro e W7 ⟨rfl, g7⟩
  replace gr := hid (gr.out.trans g7)
  replace S0 := hid (S0.out.gr g7)
  replace Bx0 := hid (g7.heap Bx0.out)
  replace Bt := hid (g7.heap Bt.out)
  clear Bt
  clear g7
  go_wp2_with fail
  go_ret
  exact ⟨rfl, gr.out⟩
end Go.Proofs.YtlgfibiggiknjaaDoor
