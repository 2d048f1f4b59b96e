/- codeOf of the sentinels. -/
import Derived.Test.YtfaiehjomcgjgaaDoorErrIs
namespace Go.Proofs.YtfaiehjomcgjgaaDoor
set_option linter.unusedVariables false
open Go.RowKit
/-- The listed sentinels, as they lie. -/
structure SentAt (w : World) (b0 b1 b2 : Addr) : Prop where
  g0 : w.cell? ⟨0, 0, none⟩ = some (sentV b0)
  g1 : w.cell? ⟨1, 0, none⟩ = some (sentV b1)
  g2 : w.cell? ⟨2, 0, none⟩ = some (sentV b2)
  h0 : ∃ cs t, w.heap[b0.block]? = some (.cells cs t (0, 0))
  h1 : ∃ cs t, w.heap[b1.block]? = some (.cells cs t (0, 0))
  h2 : ∃ cs t, w.heap[b2.block]? = some (.cells cs t (0, 0))
  n01 : b0 ≠ b1
  n02 : b0 ≠ b2
  n12 : b1 ≠ b2
theorem SentAt.gr {w w' : World} {b0 b1 b2 : Addr} (h : SentAt w b0 b1 b2) (g : Gr w w') : SentAt w' b0 b1 b2 :=
  ⟨g.cell h.g0, g.cell h.g1, g.cell h.g2, by obtain ⟨c, t, e⟩ := h.h0; exact ⟨c, t, g.heap e⟩, by obtain ⟨c, t, e⟩ := h.h1; exact ⟨c, t, g.heap e⟩, by obtain ⟨c, t, e⟩ := h.h2; exact ⟨c, t, g.heap e⟩, h.n01, h.n02, h.n12⟩
set_option maxRecDepth 100000 in
theorem codeOf_range (b0 b1 b2 : Addr) (w : World) (h : SentAt w b0 b1 b2) :
    Calls Tryd.prog 41 #[sentV b1] w fun e w' => e = .returned (.int .i64 2) ∧ w = w' := by
  have H1 := hid (isSame_any b1 w)
  have c1 := h.g1
  clear h
  unfold sentV at c1 H1 ⊢
  go_enter Tryd.func41, Tryd.ntmps41
  go_wp2_with fail
  refine H1.out.mono ?_
  rintro e w1 ⟨rfl, rfl⟩
  go_wp2_with fail
  go_ret
  exact ⟨rfl, rfl⟩
set_option maxRecDepth 100000 in
theorem codeOf_invalid (b0 b1 b2 : Addr) (w : World) (h : SentAt w b0 b1 b2) :
    Calls Tryd.prog 41 #[sentV b0] w fun e w' => e = .returned (.int .i64 1) ∧ w = w' := by
  obtain ⟨cs0, t0, e0⟩ := h.h0
  obtain ⟨cs1, t1, e1⟩ := h.h1
  obtain ⟨cs2, t2, e2⟩ := h.h2
  have H1 := hid (isOther_any b0 b1 cs0 cs1 t0 t1 w h.n01 e0 e1)
  have H2 := hid (isOther_any b0 b2 cs0 cs2 t0 t2 w h.n02 e0 e2)
  have c1 := h.g1
  have c2 := h.g2
  clear h e0 e1 e2
  unfold sentV at c1 c2 H1 H2 ⊢
  go_enter Tryd.func41, Tryd.ntmps41
  go_wp2_with fail
  refine H1.out.mono ?_
  rintro e w1 ⟨rfl, rfl⟩
  go_wp2_with fail
  refine H2.out.mono ?_
  rintro e w1 ⟨rfl, rfl⟩
  go_wp2_with fail
  go_ret
  exact ⟨rfl, rfl⟩
end Go.Proofs.YtfaiehjomcgjgaaDoor
