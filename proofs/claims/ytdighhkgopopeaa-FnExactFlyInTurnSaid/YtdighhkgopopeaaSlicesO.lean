/- Slices of slices of integers: what reads them. -/
import Derived.Test.YtdighhkgopopeaaSlices
namespace Go.Proofs.Ytdighhkgopopeaa
set_option linter.unusedVariables false
open Go.RowKit
/-- A slice whose elements are slices that hold these numbers. -/
def SlicesOf (k : IntKind) (w : World) (a : Option Addr) (xss : List (List Int)) : Prop :=
  ∀ i, i < xss.length → ∃ b off a' cap', a = some ⟨b, off, none⟩ ∧ w.cell? ⟨b, off + i, none⟩ = some (.slice a' (xss.getD i []).length cap') ∧ SliceOf k w a' (xss.getD i [])
theorem SlicesOf.gr {k : IntKind} {W w : World} {a : Option Addr} {xss : List (List Int)} (h : SlicesOf k W a xss) (hg : Gr W w) : SlicesOf k w a xss := by
  intro i hi
  obtain ⟨b, off, a', cap', e, hc, hs⟩ := h i hi
  exact ⟨b, off, a', cap', e, hg.cell hc, hs.gr hg⟩
end Go.Proofs.Ytdighhkgopopeaa
