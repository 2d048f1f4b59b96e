/- UpAt: what is told. -/
import Derived.Test.YtlgfibiggiknjaaDoorUpAt
namespace Go.Proofs.YtlgfibiggiknjaaDoor
set_option linter.unusedVariables false
open Go.RowKit
set_option maxRecDepth 100000 in
theorem isHauled_any (h d : Int) (w : World) :
    Calls Tryd.prog 74 #[.agg #[.int .i64 h, .int .i64 d]] w fun e w' => e = .returned (.bool (d != -1)) ∧ Gr w w' := by
  have gr : Hid (Gr w (w.alloc (.cells #[.int .i64 h, .int .i64 d] 89))) := hid ((Gr.refl _).alloc _)
  go_enter Tryd.func74, Tryd.ntmps74
  go_wp2_with fail
  go_ret
  exact ⟨rfl, gr.out⟩
end Go.Proofs.YtlgfibiggiknjaaDoor
