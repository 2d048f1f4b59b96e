/- errors.As at tooMany contrary. -/
import Derived.Test.YtlgfibiggiknjaaDoorErrK
namespace Go.Proofs.YtlgfibiggiknjaaDoor
set_option linter.unusedVariables false
open Go.RowKit
end Go.Proofs.YtlgfibiggiknjaaDoor
