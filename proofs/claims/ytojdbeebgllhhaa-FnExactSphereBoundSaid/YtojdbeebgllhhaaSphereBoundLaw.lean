/- SphereBound: the law's walk. -/
import Derived.Test.YtojdbeebgllhhaaWord8
import Derived.Test.YtojdbeebgllhhaaSlicesW
namespace Go.Proofs.Ytojdbeebgllhhaa
open Go.RowKit
set_option maxRecDepth 100000 in
set_option maxHeartbeats 2000000 in
set_option linter.unusedVariables false in
theorem FnExactSphereBound_walk (c0 : Int) (v0 : (Lit.int .i64 c0).wf = true) (c1 : Int) (v1 : (Lit.int .i64 c1).wf = true) (c2 : Int) (v2 : (Lit.int .i64 c2).wf = true) (w : World) :
    Calls Try.prog 7 #[.int .i64 c0, .int .i64 c1, .int .i64 c2] w fun e w' => e = .returned (.bool true) ∧ Gr w w' := by
  have hsp := spec_SphereBound_any c0 v0 c1 v1 c2 v2
  have him := impl_SphereBound_any c0 v0 c1 v1 c2 v2
  generalize sphereV c0 c1 c2 = r0 at *
  generalize sphereC c0 c1 c2 = r1 at *
  have HSP := hid hsp
  have HIM := hid him
  clear hsp him
  clear v0 v1 v2
  have gr := hid (Gr.refl w)
  go_enter Try.func7, Try.ntmps7
  go_wp2_with fail
  refine (HSP.out _).mono ?_
  rintro e W1 ⟨rfl, g1⟩
  replace gr := hid (gr.out.trans g1)
  clear g1
  go_wp2_with fail
  refine (HIM.out _).mono ?_
  rintro e W2 ⟨rfl, g2⟩
  replace gr := hid (gr.out.trans g2)
  clear g2
  go_wp2_with fail
  go_ret
  exact ⟨rfl, gr.out⟩
end Go.Proofs.Ytojdbeebgllhhaa
