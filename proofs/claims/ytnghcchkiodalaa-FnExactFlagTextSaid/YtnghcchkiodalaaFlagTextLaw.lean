/- FlagText: the law's walk. -/
import Derived.Test.YtnghcchkiodalaaTextS
import Derived.Test.YtnghcchkiodalaaTextI
namespace Go.Proofs.Ytnghcchkiodalaa
open Go.RowKit
theorem spec_FlagText_any (xs : List Int) (hl : xs.length = 24) (hb : Bytes xs) (w : World) :
    Calls Try.prog 38 #[.agg (byteCells xs)] w fun e w' => e = .returned (.string (textV xs)) ∧ Gr w w' := by
  have HL := hid hl
  have HB := hid hb
  clear hl hb
  cases hok : okB xs with
  | false =>
    have HV := hid (textV_no hok)
    have HOK := hid hok
    clear hok
    go_enter Try.func38, Try.ntmps38
    go_wp2_with fail
    refine (l01Ok_any _ _ xs HL.out _ (bytesAt_of_block (new_block _ _ _))).mono ?_
    rintro e w' ⟨rfl, rfl⟩
    rw [HOK.out]
    go_wp2_with fail
    go_ret
    exact ⟨by rw [HV.out]; rfl, (Gr.refl _).alloc _⟩
  | true =>
    have HV := hid (textV_yes hok)
    have HOK := hid hok
    clear hok
    go_enter Try.func38, Try.ntmps38
    go_wp2_with fail
    refine (l01Ok_any _ _ xs HL.out _ (bytesAt_of_block (new_block _ _ _))).mono ?_
    rintro e w' ⟨rfl, rfl⟩
    rw [HOK.out]
    go_wp2_with fail
    refine (l01Text_any _ _ xs HL.out HB.out HOK.out _ (bytesAt_of_block (new_block _ _ _))).mono ?_
    rintro e w2 ⟨rfl, g2⟩
    have G2 := hid (((Gr.refl w).alloc _).trans g2)
    clear g2
    go_wp2_with fail
    go_ret
    exact ⟨by rw [HV.out]; rfl, G2.out⟩
set_option maxHeartbeats 1000000 in
theorem FnExactFlagText_walk (xs : List Int) (hl : xs.length = 24) (hb : Bytes xs) (w : World) :
    Calls Try.prog 11 #[.agg (byteCells xs)] w fun e w' => e = .returned (.bool true) ∧ Gr w w' := by
  have hs := spec_FlagText_any xs hl hb
  have hi := impl_FlagText_any xs hl hb
  generalize textV xs = r at *
  have HS := hid hs
  have HI := hid hi
  have HL := hid hl
  clear hl hb hs hi
  have g0 := (Grown.refl w).alloc (byteCells xs) 22
  have b0 := hid (new_block w xs 22)
  go_enter Try.func11, Try.ntmps11
  go_wp2_with (refine wpList_load_bytes rfl 22 _ rfl _ rfl _ xs _ 24 b0.out Try.underlying22 (by kernel_rfl) HL.out ?_)
  refine (toFlag_any xs HL.out _).mono ?_
  rintro e w1 ⟨rfl, g1⟩
  have G1 := hid (Gr.of (Grown_trans g0 g1))
  have b1 := hid (heap_grown g1 b0.out)
  clear g0 g1 b0
  go_wp2_with fail
  refine (HS.out _).mono ?_
  rintro e w2 ⟨rfl, g2⟩
  have G2 := hid (Gr.trans G1.out g2)
  have b2 := hid (g2.heap b1.out)
  clear G1 g2 b1
  go_wp2_with (refine wpList_load_bytes rfl 22 _ rfl _ rfl _ xs _ 24 b2.out Try.underlying22 (by kernel_rfl) HL.out ?_)
  refine (toFlag_any xs HL.out _).mono ?_
  rintro e w3 ⟨rfl, g3⟩
  have G3 := hid (Gr.trans G2.out (Gr.of g3))
  clear G2 g3 b2
  go_wp2_with fail
  refine (HI.out _).mono ?_
  rintro e w4 ⟨rfl, g4⟩
  have G4 := hid (Gr.trans G3.out g4)
  clear G3 g4
  go_wp2_with fail
  go_ret
  exact ⟨rfl, G4.out⟩
end Go.Proofs.Ytnghcchkiodalaa
