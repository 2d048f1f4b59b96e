/- The least faults: the program's functions. -/
import Derived.Test.YtnkoakneffjkbaaDoorSides
namespace Go.Proofs.YtnkoakneffjkbaaDoor
set_option linter.unusedVariables false
open Go.RowKit
end Go.Proofs.YtnkoakneffjkbaaDoor
