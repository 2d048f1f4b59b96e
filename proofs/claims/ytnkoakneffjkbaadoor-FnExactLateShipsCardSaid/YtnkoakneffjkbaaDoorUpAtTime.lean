/- A time, in the model's words. -/
import Derived.Test.YtnkoakneffjkbaaDoorLogOk
namespace Go.Proofs.YtnkoakneffjkbaaDoor
set_option linter.unusedVariables false
open Go.RowKit
set_option maxRecDepth 100000 in
theorem l07Time_any7 (x : Int) (w : World) : Calls Tryd.prog 59 #[.int .i64 x] w fun e w' => e = .returned (.bool (rgV x 0 100000)) ∧ w = w' := by
  have HR := hid (fun V => l00In_v (n := x) (a := 0) (b := 100000) rfl V)
  go_enter Tryd.func59, Tryd.ntmps59
  go_wp2_with fail
  refine (HR.out _).mono ?_
  rintro e w1 ⟨rfl, rfl⟩
  go_wp2_with fail
  go_ret
  exact ⟨rfl, rfl⟩
end Go.Proofs.YtnkoakneffjkbaaDoor
