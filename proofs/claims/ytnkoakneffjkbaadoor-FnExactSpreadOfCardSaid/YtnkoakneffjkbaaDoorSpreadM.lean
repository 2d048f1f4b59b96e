/- When a signal has been executed in several logs: as data. -/
import Derived.Test.YtnkoakneffjkbaaDoorTabM
import Derived.Test.YtnkoakneffjkbaaDoorMust
namespace Go.Proofs.YtnkoakneffjkbaaDoor
set_option linter.unusedVariables false
open Go.RowKit
/-- An entry that executes a signal. -/
def exeB (es : List En) (s : Int) (k : Nat) : Bool := (enAt es k).d && ((enAt es k).s == s)
def exeAt (es : List En) (s : Int) : Nat := firstFrom (exeB es s) es.length 0
/-- When it was executed for the first time, -1 if it was not. -/
def firstT (es : List En) (s : Int) : Int := if exeAt es s < es.length then (enAt es (exeAt es s)).t else -1
def lowTo (ls : List Lg) (s : Int) : Nat → Int
  | 0 => -1
  | k + 1 => if 0 ≤ firstT (lgAt ls k).es s ∧ (lowTo ls s k < 0 ∨ firstT (lgAt ls k).es s < lowTo ls s k) then firstT (lgAt ls k).es s else lowTo ls s k
def highTo (ls : List Lg) (s : Int) : Nat → Int
  | 0 => -1
  | k + 1 => max (highTo ls s k) (firstT (lgAt ls k).es s)
/-- The times of those that executed it. -/
def tmsTo (ls : List Lg) (s : Int) : Nat → List Int
  | 0 => []
  | k + 1 => if exeAt (lgAt ls k).es s < (lgAt ls k).es.length then tmsTo ls s k ++ [firstT (lgAt ls k).es s] else tmsTo ls s k
theorem tmsTo_length (ls : List Lg) (s : Int) : ∀ k, (tmsTo ls s k).length ≤ k
  | 0 => Nat.le_refl _
  | k + 1 => by
    have := tmsTo_length ls s k
    rw [tmsTo]
    split
    · rw [List.length_append, List.length_singleton]; omega
    · omega
/-- The least, the greatest of a list from its first number on. -/
def minL (xs : List Int) : Nat → Int
  | 0 => xs.getD 0 0
  | k + 1 => min (minL xs k) (xs.getD (k + 1) 0)
def maxL (xs : List Int) : Nat → Int
  | 0 => xs.getD 0 0
  | k + 1 => max (maxL xs k) (xs.getD (k + 1) 0)
theorem minL_old (xs : List Int) (x : Int) : ∀ k, k < xs.length → minL (xs ++ [x]) k = minL xs k
  | 0, h => by rw [minL, minL, List.getD_eq_getElem?_getD, List.getElem?_append_left h, ← List.getD_eq_getElem?_getD]
  | k + 1, h => by
    rw [minL, minL, minL_old xs x k (by omega)]
    congr 1
    simp [List.getD, List.getElem?_append_left h]
theorem maxL_old (xs : List Int) (x : Int) : ∀ k, k < xs.length → maxL (xs ++ [x]) k = maxL xs k
  | 0, h => by rw [maxL, maxL, List.getD_eq_getElem?_getD, List.getElem?_append_left h, ← List.getD_eq_getElem?_getD]
  | k + 1, h => by
    rw [maxL, maxL, maxL_old xs x k (by omega)]
    congr 1
    simp [List.getD, List.getElem?_append_left h]
theorem minL_snoc (xs : List Int) (x : Int) (h : 0 < xs.length) : minL (xs ++ [x]) xs.length = min (minL xs (xs.length - 1)) x := by
  obtain ⟨k, hk⟩ : ∃ k, xs.length = k + 1 := ⟨xs.length - 1, by omega⟩
  rw [hk, minL, minL_old xs x k (by omega), Nat.add_sub_cancel, ← hk]
  congr 1
  simp [List.getD]
theorem maxL_snoc (xs : List Int) (x : Int) (h : 0 < xs.length) : maxL (xs ++ [x]) xs.length = max (maxL xs (xs.length - 1)) x := by
  obtain ⟨k, hk⟩ : ∃ k, xs.length = k + 1 := ⟨xs.length - 1, by omega⟩
  rw [hk, maxL, maxL_old xs x k (by omega), Nat.add_sub_cancel, ← hk]
  congr 1
  simp [List.getD]
theorem exeAt_ok {es : List En} {s : Int} (h : exeAt es s < es.length) : exeB es s (exeAt es s) = true := ((firstFrom_spec (exeB es s) es.length _ 0 rfl).2.2 h).2
/-- Both ways are one. -/
theorem spread_eq {ls : List Lg} {s : Int} : ∀ k, (∀ i, i < k → ∀ j, j < (lgAt ls i).es.length → 0 ≤ (enAt (lgAt ls i).es j).t) →
    (tmsTo ls s k = [] ∧ lowTo ls s k = -1 ∧ highTo ls s k = -1) ∨ (0 < (tmsTo ls s k).length ∧ 0 ≤ lowTo ls s k ∧ lowTo ls s k = minL (tmsTo ls s k) ((tmsTo ls s k).length - 1) ∧ highTo ls s k = maxL (tmsTo ls s k) ((tmsTo ls s k).length - 1) ∧ 0 ≤ highTo ls s k)
  | 0, _ => .inl ⟨rfl, rfl, rfl⟩
  | k + 1, hg => by
    have ih := spread_eq (ls := ls) (s := s) k (fun i hi => hg i (by omega))
    by_cases hx : exeAt (lgAt ls k).es s < (lgAt ls k).es.length
    · have ht : 0 ≤ firstT (lgAt ls k).es s := by unfold firstT; rw [if_pos hx]; exact hg k (by omega) _ hx
      have e1 : tmsTo ls s (k + 1) = tmsTo ls s k ++ [firstT (lgAt ls k).es s] := by rw [tmsTo, if_pos hx]
      have e2 : lowTo ls s (k + 1) = if 0 ≤ firstT (lgAt ls k).es s ∧ (lowTo ls s k < 0 ∨ firstT (lgAt ls k).es s < lowTo ls s k) then firstT (lgAt ls k).es s else lowTo ls s k := rfl
      have e3 : highTo ls s (k + 1) = max (highTo ls s k) (firstT (lgAt ls k).es s) := rfl
      generalize firstT (lgAt ls k).es s = t at *
      right
      rw [e1, e2, e3, List.length_append, List.length_singleton, Nat.add_sub_cancel]
      rcases ih with ⟨a, b, c⟩ | ⟨a, b, c, d, e⟩
      · rw [a, b, c, if_pos ⟨ht, .inl (by omega)⟩]
        refine ⟨by simp, ht, ?_, ?_, by omega⟩
        · show t = minL [t] 0; rfl
        · show max (-1) t = maxL [t] 0
          rw [show maxL [t] 0 = t from rfl]; omega
      · rw [minL_snoc _ _ a, maxL_snoc _ _ a, ← c, ← d]
        refine ⟨by omega, ?_, ?_, rfl, by omega⟩
        · split <;> omega
        · split <;> omega
    · have ht : firstT (lgAt ls k).es s = -1 := by unfold firstT; rw [if_neg hx]
      have e1 : tmsTo ls s (k + 1) = tmsTo ls s k := by rw [tmsTo, if_neg hx]
      have e2 : lowTo ls s (k + 1) = lowTo ls s k := by rw [lowTo, ht, if_neg (by omega)]
      have e3 : highTo ls s (k + 1) = max (highTo ls s k) (-1) := by rw [highTo, ht]
      rw [e1, e2, e3]
      rcases ih with ⟨a, b, c⟩ | ⟨a, b, c, d, e⟩
      · exact .inl ⟨a, b, by rw [c]; rfl⟩
      · exact .inr ⟨a, b, c, by rw [← d]; omega, by omega⟩
/-- The code of logs; of logs and a signal. -/
def lgC (ls : List Lg) : Int := if allV ls = true then (if rgV (ls.length : Int) 1 8 = true then 0 else 2) else 1
def lsC (ls : List Lg) (s : Int) : Int := if lgC ls = 0 then (if rgV s 0 9999 = true then 0 else 2) else lgC ls
def spC (ls : List Lg) (s : Int) : Int := if lsC ls s = 0 then (if lowTo ls s ls.length < 0 then 6 else 0) else lsC ls s
def spLo (ls : List Lg) (s : Int) : Int := if spC ls s = 0 then lowTo ls s ls.length else 0
def spHi (ls : List Lg) (s : Int) : Int := if spC ls s = 0 then highTo ls s ls.length else 0
theorem lgC_bad {ls : List Lg} (h : allV ls = false) : lgC ls = 1 := by unfold lgC; rw [h]; rfl
theorem lgC_many {ls : List Lg} (h : allV ls = true) (h2 : rgV (ls.length : Int) 1 8 = false) : lgC ls = 2 := by unfold lgC; rw [h, h2]; rfl
theorem lgC_ok {ls : List Lg} (h : allV ls = true) (h2 : rgV (ls.length : Int) 1 8 = true) : lgC ls = 0 := by unfold lgC; rw [h, h2]; rfl
theorem lgC_zero {ls : List Lg} (h : lgC ls = 0) : allV ls = true ∧ rgV (ls.length : Int) 1 8 = true := by
  cases h1 : allV ls with
  | false => rw [lgC_bad h1] at h; exact absurd h (by decide)
  | true =>
    cases h2 : rgV (ls.length : Int) 1 8 with
    | false => rw [lgC_many h1 h2] at h; exact absurd h (by decide)
    | true => exact ⟨rfl, rfl⟩
theorem sp_lg {ls : List Lg} {s : Int} (h : ¬ lgC ls = 0) : spC ls s = lgC ls ∧ spLo ls s = 0 ∧ spHi ls s = 0 := by
  have e : spC ls s = lgC ls := by unfold spC lsC; rw [if_neg h, if_neg h]
  exact ⟨e, by unfold spLo; rw [e, if_neg h], by unfold spHi; rw [e, if_neg h]⟩
theorem sp_sig {ls : List Lg} {s : Int} (h : lgC ls = 0) (h2 : rgV s 0 9999 = false) : spC ls s = 2 ∧ spLo ls s = 0 ∧ spHi ls s = 0 := by
  have e : spC ls s = 2 := by unfold spC lsC; rw [if_pos h, h2]; rfl
  exact ⟨e, by unfold spLo; rw [e]; rfl, by unfold spHi; rw [e]; rfl⟩
theorem sp_none {ls : List Lg} {s : Int} (h : lgC ls = 0) (h2 : rgV s 0 9999 = true) (h3 : lowTo ls s ls.length < 0) : spC ls s = 6 ∧ spLo ls s = 0 ∧ spHi ls s = 0 := by
  have e : spC ls s = 6 := by unfold spC lsC; rw [if_pos h, h2, if_pos rfl, if_pos rfl, if_pos h3]
  exact ⟨e, by unfold spLo; rw [e]; rfl, by unfold spHi; rw [e]; rfl⟩
theorem sp_some {ls : List Lg} {s : Int} (h : lgC ls = 0) (h2 : rgV s 0 9999 = true) (h3 : ¬ lowTo ls s ls.length < 0) : spC ls s = 0 ∧ spLo ls s = lowTo ls s ls.length ∧ spHi ls s = highTo ls s ls.length := by
  have e : spC ls s = 0 := by unfold spC lsC; rw [if_pos h, h2, if_pos rfl, if_pos rfl, if_neg h3]
  exact ⟨e, by unfold spLo; rw [if_pos e], by unfold spHi; rw [if_pos e]⟩
end Go.Proofs.YtnkoakneffjkbaaDoor
