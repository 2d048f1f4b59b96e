/- FnExactValidFlag's walk. -/
import Derived.Test.YtflolmjgkmmllaaValid
import Derived.Test.YtflolmjgkmmllaaToFlag
namespace Go.Proofs.Ytflolmjgkmmllaa
open Go.RowKit
theorem FnExactValidFlag_walk (xs : List Int) (hl : xs.length = 24) (hb : Bytes xs) (w : World) :
    Calls Try.prog 4 #[.agg (byteCells xs)] w fun e w' => e = .returned (.bool true) ∧ Grown w w' := by
  have HL := hid hl
  have HB := hid hb
  clear hl hb
  have g0 := (Grown.refl w).alloc (byteCells xs) 31
  have b0 := hid (new_block w xs 31)
  go_enter Try.func4, Try.ntmps4
  go_wp2_with (refine wpList_load_bytes rfl 31 _ rfl _ rfl _ xs _ 24 b0.out Try.underlying31 (by kernel_rfl) HL.out ?_)
  refine (toFlag_any xs HL.out _).mono ?_
  rintro e w1 ⟨rfl, g1⟩
  have G1 := hid (Grown_trans g0 g1)
  have b1 := hid (heap_grown g1 b0.out)
  clear g0 g1 b0
  go_wp2_with fail
  refine (spec_ValidFlag_any xs HL.out _).mono ?_
  rintro e w2 ⟨rfl, g2⟩
  have G2 := hid (Grown_trans G1.out g2)
  have b2 := hid (heap_grown g2 b1.out)
  clear G1 g2 b1
  go_wp2_with (refine wpList_load_bytes rfl 31 _ rfl _ rfl _ xs _ 24 b2.out Try.underlying31 (by kernel_rfl) HL.out ?_)
  refine (toFlag_any xs HL.out _).mono ?_
  rintro e w3 ⟨rfl, g3⟩
  have G3 := hid (Grown_trans G2.out g3)
  clear G2 g3 b2
  go_wp2_with fail
  refine (impl_ValidFlag_any xs HL.out HB.out _).mono ?_
  rintro e w4 ⟨rfl, g4⟩
  have G4 := hid (Grown_trans G3.out g4)
  clear G3 g4
  go_wp2_with fail
  go_ret
  exact ⟨rfl, G4.out⟩
end Go.Proofs.Ytflolmjgkmmllaa
