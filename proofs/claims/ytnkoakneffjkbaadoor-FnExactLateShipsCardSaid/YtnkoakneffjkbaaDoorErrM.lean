/- errors.As at tooMany contrary. -/
import Derived.Test.YtnkoakneffjkbaaDoorErrK
namespace Go.Proofs.YtnkoakneffjkbaaDoor
set_option linter.unusedVariables false
open Go.RowKit
end Go.Proofs.YtnkoakneffjkbaaDoor
