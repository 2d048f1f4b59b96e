/- Slices of integers: copies, comparisons, marks. -/
import Derived.Test.YtojdbeebgllhhaaOwn
namespace Go.Proofs.Ytojdbeebgllhhaa
open Go.RowKit

end Go.Proofs.Ytojdbeebgllhhaa
