/- What a story says at a step: the program's small functions. -/
import Derived.Test.YtnkoakneffjkbaaDoorTabM
import Derived.Test.YtnkoakneffjkbaaDoorRowRes
import Derived.Test.YtnkoakneffjkbaaDoorFlights
namespace Go.Proofs.YtnkoakneffjkbaaDoor
set_option linter.unusedVariables false
open Go.RowKit
def enV (e : En) : Value := .agg #[.int .i64 e.t, .int .i64 e.s, .bool e.d]
set_option maxRecDepth 100000 in
set_option maxHeartbeats 800000 in
theorem agrees_any (x y : En) (w : World) :
    Calls Tryd.prog 39 #[enV x, enV y] w fun e w' => e = .returned (.bool (agE x y)) ∧ Gr w w' := by
  have HQ := hid (show agE x y = ((x.s == y.s) && (x.d == y.d)) from rfl)
  unfold enV
  generalize agE x y = r at *
  obtain ⟨xt, xs, xd⟩ := x
  obtain ⟨yt, ys, yd⟩ := y
  simp only at HQ ⊢
  cases e1 : (xs == ys)
  · have HR := hid (show r = false by rw [HQ.out, e1]; rfl)
    clear HQ
    go_enter Tryd.func39, Tryd.ntmps39
    go_wp2_with fail
    go_ret
    exact ⟨ret_bool HR.out.symm, ((Gr.refl _).alloc _).alloc _⟩
  cases e2 : (xd == yd)
  · have HR := hid (show r = false by rw [HQ.out, e1, e2]; rfl)
    clear HQ
    go_enter Tryd.func39, Tryd.ntmps39
    go_wp2_with fail
    go_ret
    exact ⟨ret_bool HR.out.symm, ((Gr.refl _).alloc _).alloc _⟩
  · have HR := hid (show r = true by rw [HQ.out, e1, e2]; rfl)
    clear HQ
    go_enter Tryd.func39, Tryd.ntmps39
    go_wp2_with fail
    go_ret
    exact ⟨ret_bool HR.out.symm, ((Gr.refl _).alloc _).alloc _⟩
end Go.Proofs.YtnkoakneffjkbaaDoor
