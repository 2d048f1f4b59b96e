/- errors.As at tooMany contrary. -/
import Derived.Test.YtehingpopgojkaaDoorErrK
namespace Go.Proofs.YtehingpopgojkaaDoor
set_option linter.unusedVariables false
open Go.RowKit
end Go.Proofs.YtehingpopgojkaaDoor
