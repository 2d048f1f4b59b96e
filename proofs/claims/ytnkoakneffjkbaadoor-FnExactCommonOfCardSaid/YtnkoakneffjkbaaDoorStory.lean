/- The story with the least faults: the program's function. -/
import Derived.Test.YtnkoakneffjkbaaDoorFaults
namespace Go.Proofs.YtnkoakneffjkbaaDoor
set_option linter.unusedVariables false
open Go.RowKit
end Go.Proofs.YtnkoakneffjkbaaDoor
