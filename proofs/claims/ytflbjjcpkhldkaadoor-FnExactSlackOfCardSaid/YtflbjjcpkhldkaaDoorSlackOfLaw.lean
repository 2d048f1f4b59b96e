/- SlackOf: the law's walk. -/
import Derived.Test.YtflbjjcpkhldkaaDoorSlackOf
namespace Go.Proofs.YtflbjjcpkhldkaaDoor
set_option linter.unusedVariables false
open Go.RowKit
set_option maxRecDepth 100000 in
set_option maxHeartbeats 3000000 in
set_option linter.unusedVariables false in
theorem FnExactSlackOf_walk (a0 : Option Addr) (n0 cap0 : Nat) (xs0 : List Int) (hl0 : xs0.length = n0 * 3) (hm0 : n0 ≤ maxLen) (hf0 : Fits .i8 xs0) (c1 : Int) (v1 : (Lit.int .i64 c1).wf = true) (w : World) (nv : NeverAt w) (hs0 : CellsOf w a0 (xs0.map (Value.int .i8))) :
    Calls Tryd.prog 13 #[.slice a0 n0 cap0, .int .i64 c1] w fun e w' => e = .returned (.bool true) ∧ Gr w w' := by
  unfold maxLen at hm0
  have hc0 : ShipsC n0 (xs0.map (Value.int .i8)) := ships_sC hl0
  have HSP := hid (fun (hn0 : n0 ≤ 1048576) => fun b0 => spec_SlackOf_law b0 n0 n0 xs0 hl0 hn0 hf0 c1 v1)
  have HIM := hid (fun (hn0 : n0 ≤ 1048576) => fun b0 => impl_SlackOf_law b0 n0 n0 xs0 hl0 hn0 hf0 c1 v1)
  generalize slackV n0 xs0 c1 = r0 at *
  generalize askC n0 xs0 c1 = r1 at *
  have HTO0 := hid (fun hn a0 cap => toShipS_own a0 cap n0 _ hc0 hn)
  have HEQ0 := hid (fun hn a b ca cb => eqShipS_own a b ca cb n0 _ hc0 hn)
  have HCL0 := hid hc0.1
  have S0 := hid hs0
  clear hs0 hc0 hl0 hf0 v1
  have NV := hid nv
  clear nv
  have gr := hid (Gr.refl w)
  have Z0 := S0
  go_enter Tryd.func13, Tryd.ntmps13
  go_wp2_with fail
  refine (szShipS_any _ _ _ 1048576 (by omega) (by omega) _).mono ?_
  rintro e W1 ⟨⟨rr0, rfl, hr0⟩, rfl⟩
  by_cases hrr0 : rr0 < 0
  · go_wp2_with fail
    go_ret
    exact ⟨rfl, gr.out⟩
  have hn0 : n0 ≤ 1048576 := by rcases hr0 with h | h <;> omega
  have HN0 := hid hn0
  go_wp2_with fail
  refine (HTO0.out HN0.out _ _ _ S0.out).mono ?_
  rintro e W2 ⟨rfl, h2, g2⟩
  replace gr := hid (gr.out.trans g2)
  replace S0 := hid (S0.out.gr g2)
  have Bs0 := hid h2
  have gz2 := hid g2.size
  have ltBs0 := hid (lt_of_heap h2)
  clear h2 g2
  go_wp2_with fail
  refine (HSP.out HN0.out _ _ (cellsOf_list Bs0.out)).mono ?_
  rintro e W3 ⟨rfl, g3⟩
  replace gr := hid (gr.out.trans g3)
  replace S0 := hid (S0.out.gr g3)
  replace Bs0 := hid (g3.heap Bs0.out)
  clear g3
  clear Bs0
  go_wp2_with fail
  refine (HTO0.out HN0.out _ _ _ S0.out).mono ?_
  rintro e W4 ⟨rfl, h4, g4⟩
  replace gr := hid (gr.out.trans g4)
  replace S0 := hid (S0.out.gr g4)
  have Bx0 := hid h4
  have gz4 := hid g4.size
  have ltBx0 := hid (lt_of_heap h4)
  clear h4 g4
  go_wp2_with fail
  refine (HIM.out HN0.out _ _ (NV.out.gr gr.out) (cellsOf_list Bx0.out)).mono ?_
  rintro e W5 ⟨rfl, g5⟩
  replace gr := hid (gr.out.trans g5)
  replace S0 := hid (S0.out.gr g5)
  replace Bx0 := hid (g5.heap Bx0.out)
  clear g5
  go_wp2_with fail
  refine (HTO0.out HN0.out _ _ _ S0.out).mono ?_
  rintro e W6 ⟨rfl, h6, g6⟩
  replace gr := hid (gr.out.trans g6)
  replace S0 := hid (S0.out.gr g6)
  replace Bx0 := hid (g6.heap Bx0.out)
  have Bt := hid h6
  have gz6 := hid g6.size
  have ltBt := hid (lt_of_heap h6)
  clear h6 g6
  go_wp2_with fail
  refine (HEQ0.out HN0.out _ _ _ _ _ (cellsOf_list Bx0.out) (cellsOf_list Bt.out)).mono ?_
  rintro e W7 ⟨rfl, g7⟩
  replace gr := hid (gr.out.trans g7)
  replace S0 := hid (S0.out.gr g7)
  replace Bx0 := hid (g7.heap Bx0.out)
  replace Bt := hid (g7.heap Bt.out)
  clear Bt
  clear g7
  go_wp2_with fail
  go_ret
  exact ⟨rfl, gr.out⟩
end Go.Proofs.YtflbjjcpkhldkaaDoor
