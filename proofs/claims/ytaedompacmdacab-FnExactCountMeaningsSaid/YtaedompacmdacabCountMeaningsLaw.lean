/- CountMeanings: the law's walk. -/
import Derived.Test.YtaedompacmdacabCountS
namespace Go.Proofs.Ytaedompacmdacab
open Go.RowKit
set_option maxRecDepth 100000 in
set_option linter.unusedVariables false in
theorem FnExactCountMeanings_walk (c0 : Int) (v0 : (Lit.int .i64 c0).wf = true) (c1 : Int) (v1 : (Lit.int .i64 c1).wf = true) (c2 : Int) (v2 : (Lit.int .i64 c2).wf = true) (c3 : Int) (v3 : (Lit.int .i64 c3).wf = true) (w : World) :
    Calls Try.prog 4 #[.int .i64 c0, .int .i64 c1, .int .i64 c2, .int .i64 c3] w fun e w' => e = .returned (.bool true) ∧ Gr w w' := by
  have HS := hid (spec_CountMeanings_any c0 c1 c2 c3)
  have HI := hid (impl_CountMeanings_any c0 c1 c2 c3)
  generalize cntV c0 c1 c2 c3 = a at *
  generalize cntC c0 c1 c2 c3 = b at *
  clear v0 v1 v2 v3
  go_enter Try.func4, Try.ntmps4
  go_wp2_with fail
  refine (HS.out _).mono ?_
  rintro e w1 ⟨rfl, g1⟩
  have G1 := hid g1
  clear g1
  go_wp2_with fail
  refine (HI.out _).mono ?_
  rintro e w2 ⟨rfl, g2⟩
  have G2 := hid (G1.out.trans g2)
  clear g2
  go_wp2_with fail
  go_ret
  exact ⟨rfl, G2.out⟩
end Go.Proofs.Ytaedompacmdacab
