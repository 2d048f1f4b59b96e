/- ValidHoist, MeaningOf, WithoutSubs of the model; ValidHoist's law. -/
import Derived.Test.YtdighhkgopopeaaHoistR
import Derived.Test.YtdighhkgopopeaaHoistX
namespace Go.Proofs.Ytdighhkgopopeaa
set_option linter.unusedVariables false
open Go.RowKit
set_option maxRecDepth 100000 in
set_option maxHeartbeats 1000000 in
theorem l02Ok_any (a : Option Addr) (n cap : Nat) (xs : List Int) (hn : n = xs.length) (hm : n ≤ 1048576) (hf : Fits .i8 xs) (w : World) (hs : SliceOf .i8 w a xs) :
    Calls Try.prog 37 #[.slice a n cap] w fun e w' => e = .returned (.bool (validH xs)) ∧ Gr w w' := by
  have h := hid (l02Read_any a n cap xs hn hm hf w hs)
  clear hs hn hf
  generalize validH xs = b at *
  go_enter Try.func37, Try.ntmps37
  go_wp2_with fail
  refine h.out.mono ?_
  rintro e w' ⟨v, rfl, -, g⟩
  have G := hid g
  clear g
  unfold withOk
  go_wp2_with fail
  go_ret
  exact ⟨rfl, G.out⟩
theorem impl_ValidHoist_any (a : Option Addr) (xs : List Int) (hm : xs.length ≤ 1048576) (hf : Fits .i8 xs) (w : World) (hs : SliceOf .i8 w a xs) :
    Calls Try.prog 74 #[.slice a xs.length xs.length] w fun e w' => e = .returned (.bool (validH xs)) ∧ Gr w w' := impl_ValidHoist_cap a _ _ xs rfl hm (Nat.le_refl _) hf w hs
end Go.Proofs.Ytdighhkgopopeaa
