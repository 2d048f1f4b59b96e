/- The model's search for hoists out of a locker: all of it. -/
import Derived.Test.YtdighhkgopopeaaLkK
import Derived.Test.YtdighhkgopopeaaHFromS
namespace Go.Proofs.Ytdighhkgopopeaa
set_option linter.unusedVariables false
open Go.RowKit
theorem lk04_all : LkAll := by
  intro lo bm om cm n m hn h1 hn8 hnum
  suffices H : ∀ f, f ≤ n → LkOk lo bm om cm n m f from H n (Nat.le_refl n)
  intro f
  induction f with
  | zero => intro _; exact lk04_zero lo bm om cm n m h1 hn8
  | succ f ih =>
    intro hf h left hl hN hll hlb ao no co vs xss bh oh ch st w hst hlo hc ho hm hbm hh hne
    by_cases hb : m.getD h.length 0 = -10
    · exact lk04_brk lo bm om cm n m f hn hn8 (ih (by omega)) h left hl hN hll hlb hb ao no co vs xss bh oh ch st w hlo hc ho hm hbm hh hne
    · subst hst
      exact lk04_kind lo bm om cm n m f hn hn8 hnum (ih (by omega)) h left hl hN hll hlb hb ao no co vs xss bh oh ch w hlo hc ho hm hbm hh hne
end Go.Proofs.Ytdighhkgopopeaa
