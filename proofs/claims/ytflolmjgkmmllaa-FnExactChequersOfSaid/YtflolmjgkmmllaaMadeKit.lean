/- The model's patterns of two colours. -/
import Derived.Test.YtflolmjgkmmllaaPattern
namespace Go.Proofs.Ytflolmjgkmmllaa
open Go.RowKit

theorem heap_byte_set2 {w : World} {b i : Nat} {xs : List Int} {t : TypeId} {x y : Int} (h : w.heap[b]? = some (.cells (byteCells xs) t (0, 0))) :
    ((w.setCell ⟨b, i, none⟩ (.int .u8 x)).setCell ⟨b, i, none⟩ (.int .u8 y)).heap[b]? = some (.cells (byteCells (xs.set i y)) t (0, 0)) := by
  have := heap_byte_set (i := i) (x := y) (heap_byte_set (i := i) (x := x) h)
  rwa [List.set_set] at this
end Go.Proofs.Ytflolmjgkmmllaa
