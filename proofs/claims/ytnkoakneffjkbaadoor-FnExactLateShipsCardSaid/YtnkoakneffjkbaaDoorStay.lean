/- What is told lies behind the error's block. -/
import Derived.Test.YtnkoakneffjkbaaDoorOwnV
namespace Go.Proofs.YtnkoakneffjkbaaDoor
set_option linter.unusedVariables false
open Go.RowKit
def RI (lo : Nat) (k : IntKind) (e : TypeId) (xs : List Int) (v : Value) (w : World) : Prop := ∃ hi, hi ≤ w.heap.size ∧ Own k e w lo hi v xs
theorem ri_stays {lo b : Nat} {k : IntKind} {e : TypeId} {xs : List Int} (hb : b < lo) : ∀ v w1 w2, w1.grownBy w2 (some b) → RI lo k e xs v w1 → RI lo k e xs v w2 := by
  rintro v w1 w2 hg ⟨hi, h1, h2⟩
  exact ⟨hi, Nat.le_trans h1 hg.size, h2.by_ hg (fun c e => by cases e; exact .inl hb)⟩
def RV (lo : Nat) (e : TypeId) (sz n : Nat) (cs : List Value) (v : Value) (w : World) : Prop := ∃ hi, hi ≤ w.heap.size ∧ OwnV e sz w lo hi v n cs
theorem rv_stays {lo b : Nat} {e : TypeId} {sz n : Nat} {cs : List Value} (hb : b < lo) : ∀ v w1 w2, w1.grownBy w2 (some b) → RV lo e sz n cs v w1 → RV lo e sz n cs v w2 := by
  rintro v w1 w2 hg ⟨hi, h1, h2⟩
  exact ⟨hi, Nat.le_trans h1 hg.size, h2.by_ hg (fun c e => by cases e; exact .inl hb)⟩
end Go.Proofs.YtnkoakneffjkbaaDoor
