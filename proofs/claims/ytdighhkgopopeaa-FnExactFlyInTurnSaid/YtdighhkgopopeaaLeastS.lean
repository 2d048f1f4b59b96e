/- LeastSets of the model. -/
import Derived.Test.YtdighhkgopopeaaLook3
namespace Go.Proofs.Ytdighhkgopopeaa
set_option linter.unusedVariables false
open Go.RowKit
theorem goN_some {next : List Int → List (List Int)} {m : List Int} {S : Int} {h : List Int} (hx : okX S h (m.getD h.length 0) = true) (hn : next (h ++ [m.getD h.length 0]) ≠ []) (n : Nat) : goN next m S h n ≠ [] := by
  induction n with
  | zero => rw [goN, if_pos hx]; exact hn
  | succ n ih =>
    rw [goN]
    intro e
    exact ih (List.append_eq_nil_iff.1 e).2
theorem goF_some (m : List Int) (S : Int) (hS : 8 ≤ S) (B f : Nat) : ∀ h : List Int, h.length + f ≤ 8 → goF m S B f h ≠ [] := by
  induction f with
  | zero => intro h _; rw [goF_zero]; simp
  | succ f ih =>
    intro h hl
    rw [goF_succ]
    refine goN_some ?_ (ih _ (by rw [List.length_append, List.length_singleton]; omega)) B
    unfold okX
    have := (occ_bd h (m.getD h.length 0) h.length).2
    rw [Bool.or_eq_true]
    right
    rw [decide_eq_true_eq]
    omega
theorem hoistsL_some {m : List Int} (hl : m.length ≤ 8) (B : Nat) : hoistsL m (8 : Nat) B ≠ [] := goF_some m _ (by omega) B _ [] (by simpa using hl)
/-- The least number of sets from s on, within f more. -/
def leastN (m : List Int) (B : Nat) : Nat → Nat → Nat
  | 0, s => s
  | f + 1, s => if hoistsL m (s : Nat) B = [] then leastN m B f (s + 1) else s
def leastC (m : List Int) (B : Int) : Int := askC m 1 B
def leastV (m : List Int) (B : Int) : Int := if askC m 1 B = 0 then (leastN m B.toNat 7 1 : Nat) else 0
theorem leastV_no {m : List Int} {B : Int} (h : ¬ askC m 1 B = 0) : leastV m B = 0 := by unfold leastV; rw [if_neg h]
theorem leastV_yes {m : List Int} {B : Int} (h : askC m 1 B = 0) : leastV m B = (leastN m B.toNat 7 1 : Nat) := by unfold leastV; rw [if_pos h]
theorem leastN_stop {m : List Int} {B s : Nat} (h : hoistsL m (s : Nat) B ≠ []) (f : Nat) : leastN m B f s = s := by
  cases f with
  | zero => rfl
  | succ f => rw [leastN, if_neg h]
end Go.Proofs.Ytdighhkgopopeaa
