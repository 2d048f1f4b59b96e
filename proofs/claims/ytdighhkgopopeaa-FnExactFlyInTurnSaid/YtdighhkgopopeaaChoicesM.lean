/- What may stand at a place: plain lists. -/
import Derived.Test.YtdighhkgopopeaaSearchM
namespace Go.Proofs.Ytdighhkgopopeaa
set_option linter.unusedVariables false
open Go.RowKit
/-- The substitutes from -n to -1 that mean what is at a place. -/
def repsL (m : List Int) (i : Nat) : Nat → List Int
  | 0 => []
  | n + 1 => if repB m i (n + 1) then (-((n + 1 : Nat) : Int)) :: repsL m i n else repsL m i n
theorem repsL_yes {m : List Int} {i n : Nat} (h : repB m i (n + 1) = true) : repsL m i (n + 1) = (-((n + 1 : Nat) : Int)) :: repsL m i n := by rw [repsL, if_pos h]
theorem repsL_no {m : List Int} {i n : Nat} (h : repB m i (n + 1) = false) : repsL m i (n + 1) = repsL m i n := by rw [repsL, if_neg (by rw [h]; simp)]
theorem repsL_length (m : List Int) (i n : Nat) : (repsL m i n).length ≤ n := by
  induction n with
  | zero => simp [repsL]
  | succ n ih =>
    rw [repsL]
    split
    · rw [List.length_cons]; omega
    · omega
theorem repB_far {m : List Int} {i n : Nat} (h : i < startOf m i + n) : repB m i n = false := by
  unfold repB
  rw [decide_eq_false (by omega), Bool.false_and]
theorem repsL_min {m : List Int} {i : Nat} : ∀ {n : Nat}, repsL m i n = repsL m i (min (i - startOf m i) n) := by
  intro n
  induction n with
  | zero => simp
  | succ n ih =>
    by_cases h : n + 1 ≤ i - startOf m i
    · rw [Nat.min_eq_right h]
    · rw [repsL_no (repB_far (by omega)), ih]
      congr 1
      omega
/-- The choices of a place. -/
def candsL (m : List Int) (i : Nat) : List Int := repsL m i 4 ++ [m.getD i 0]
theorem candsL_length (m : List Int) (i : Nat) : 1 ≤ (candsL m i).length ∧ (candsL m i).length ≤ 5 := by
  have := repsL_length m i 4
  unfold candsL
  rw [List.length_append, List.length_singleton]
  omega
/-- The choices of the first k places. -/
def choT (m : List Int) (n k : Nat) : List (List Int) := (List.range n).map fun i => if i < k then candsL m i else []
theorem choT_length (m : List Int) (n k : Nat) : (choT m n k).length = n := by simp [choT]
theorem choT_get {m : List Int} {n k i : Nat} (h : i < n) : (choT m n k).getD i [] = if i < k then candsL m i else [] := by
  simp only [choT, List.getD_eq_getElem?_getD, List.getElem?_map, List.getElem?_range h]
  rfl
theorem choT_zero (m : List Int) (n : Nat) : choT m n 0 = List.replicate n [] := by
  apply List.ext_getElem?
  intro i
  by_cases h : i < n
  · simp [choT, h]
  · simp [choT, h]
theorem choT_set {m : List Int} {n k : Nat} (h : k < n) : (choT m n k).set k (candsL m k) = choT m n (k + 1) := by
  apply List.ext_getElem?
  intro i
  rw [List.getElem?_set, choT_length]
  by_cases e : k = i
  · subst e
    simp [choT, h]
  · rw [if_neg e]
    by_cases hi : i < n
    · simp only [choT, List.getElem?_map, List.getElem?_range hi, Option.map_some]
      congr 1
      by_cases h1 : i < k
      · rw [if_pos h1, if_pos (by omega)]
      · rw [if_neg h1, if_neg (by omega)]
    · simp [choT, hi]
theorem choT_set_nil {m : List Int} {n k : Nat} (h : k < n) : (choT m n k).set k [] = choT m n k := by
  have hk : k < (choT m n k).length := by rw [choT_length]; exact h
  have e : (choT m n k)[k] = [] := by
    have := choT_get (m := m) (k := k) h
    rw [List.getD_eq_getElem?_getD, List.getElem?_eq_getElem hk, Option.getD_some, if_neg (Nat.lt_irrefl k)] at this
    exact this
  apply List.ext_getElem?
  intro i
  rw [List.getElem?_set]
  by_cases hi : k = i
  · subst hi
    simp [hk, e]
  · rw [if_neg hi]
end Go.Proofs.Ytdighhkgopopeaa
