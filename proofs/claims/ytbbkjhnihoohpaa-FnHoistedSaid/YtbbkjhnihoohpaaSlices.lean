/- Slices of integers: copies, comparisons, marks. -/
import Derived.Test.YtbbkjhnihoohpaaOwn
namespace Go.Proofs.Ytbbkjhnihoohpaa
open Go.RowKit

end Go.Proofs.Ytbbkjhnihoohpaa
