/- SetsFor: the functions. -/
import Derived.Test.YtdighhkgopopeaaHoistF
namespace Go.Proofs.Ytdighhkgopopeaa
set_option linter.unusedVariables false
open Go.RowKit
/-- The greatest number of flags or substitutes of one kind, up to a place. -/
def setsTo (xs : List Int) (n : Nat) : Nat → Int
  | 0 => 0
  | k + 1 => if brkI (xs.getD k 0) then setsTo xs n k else if setsTo xs n k < occ xs (xs.getD k 0) n then occ xs (xs.getD k 0) n else setsTo xs n k
theorem setsTo_le {xs : List Int} {n k : Nat} {b : Int} : setsTo xs n k ≤ b ↔ 0 ≤ b ∧ ∀ i, i < k → ¬ xs.getD i 0 = -10 → occ xs (xs.getD i 0) n ≤ b := by
  induction k with
  | zero => simp [setsTo]
  | succ k ih =>
    simp only [setsTo]
    constructor
    · intro h
      cases hb : brkI (xs.getD k 0)
      · rw [hb] at h
        simp only [Bool.false_eq_true, if_false] at h
        have h1 : setsTo xs n k ≤ b ∧ occ xs (xs.getD k 0) n ≤ b := by split at h <;> omega
        obtain ⟨h2, h3⟩ := ih.1 h1.1
        refine ⟨h2, fun i hi hne => ?_⟩
        by_cases e : i = k
        · rw [e]; exact h1.2
        · exact h3 i (by omega) hne
      · rw [if_pos hb] at h
        obtain ⟨h2, h3⟩ := ih.1 h
        refine ⟨h2, fun i hi hne => ?_⟩
        by_cases e : i = k
        · rw [e] at hne; exact absurd (brkI_iff.1 hb) hne
        · exact h3 i (by omega) hne
    · rintro ⟨h1, h2⟩
      have h3 := ih.2 ⟨h1, fun i hi => h2 i (by omega)⟩
      cases hb : brkI (xs.getD k 0)
      · have h4 := h2 k (by omega) (brkI_no hb)
        simp only [Bool.false_eq_true, if_false]
        split <;> omega
      · rw [if_pos rfl]; exact h3
theorem setsTo_bd (xs : List Int) (n k : Nat) : 0 ≤ setsTo xs n k ∧ setsTo xs n k ≤ n := by
  refine ⟨(setsTo_le.1 (Int.le_refl _)).1, setsTo_le.2 ⟨by omega, fun i _ _ => (occ_bd xs _ n).2⟩⟩
def setsF (xs : List Int) : Int := if validH xs then setsTo xs xs.length xs.length else 0
theorem setsF_yes {xs : List Int} (h : validH xs = true) : setsF xs = setsTo xs xs.length xs.length := by unfold setsF; rw [if_pos h]
theorem setsF_no {xs : List Int} (h : validH xs = false) : setsF xs = 0 := by unfold setsF; rw [if_neg (by rw [h]; simp)]
def flgC (xs : List Int) (n c : Nat) : Int := occ xs (c : Int) n
def subC (xs : List Int) (n c : Nat) : Int := occ xs (-(c : Int) - 1) n
theorem sets_eq {xs : List Int} (hv : validH xs = true) : maxFrom (maxFrom 0 (flgC xs xs.length) 40) (subC xs xs.length) 4 = setsTo xs xs.length xs.length := by
  have hz : ∀ c : Int, ¬ c = -10 → occ xs c xs.length ≤ setsTo xs xs.length xs.length := by
    intro c hc
    by_cases hi : ∃ i, i < xs.length ∧ xs.getD i 0 = c
    · obtain ⟨i, hi, rfl⟩ := hi
      exact (setsTo_le.1 (Int.le_refl (setsTo xs xs.length xs.length))).2 i hi hc
    · rw [occ_zero (fun i hi' e => hi ⟨i, hi', e⟩)]
      exact (setsTo_bd xs xs.length xs.length).1
  apply Int.le_antisymm
  · refine maxFrom_le.2 ⟨maxFrom_le.2 ⟨(setsTo_bd xs xs.length xs.length).1, fun c _ => hz _ (by omega)⟩, fun c _ => hz _ (by omega)⟩
  · obtain ⟨h1, h2⟩ := (maxFrom_le (m := maxFrom 0 (flgC xs xs.length) 40) (f := subC xs xs.length) (k := 4)).1 (Int.le_refl _)
    obtain ⟨h3, h4⟩ := maxFrom_le.1 h1
    refine setsTo_le.2 ⟨h3, fun i hi hne => ?_⟩
    rcases validH_num hv hi with h | h | h
    · exact absurd h hne
    · have := h2 ((-(xs.getD i 0)).toNat - 1) (by omega)
      unfold subC at this
      rw [show -(((-(xs.getD i 0)).toNat - 1 : Nat) : Int) - 1 = xs.getD i 0 by omega] at this
      exact this
    · have := h4 (xs.getD i 0).toNat (by omega)
      unfold flgC at this
      rw [show (((xs.getD i 0).toNat : Nat) : Int) = xs.getD i 0 by omega] at this
      exact this
def maxI (a b : Int) : Int := if a < b then b else a
theorem maxFrom_step (m : Int) (f : Nat → Int) (k : Nat) : maxI (maxFrom m f k) (f k) = maxFrom m f (k + 1) := rfl
theorem maxFrom_b (m : Int) (f : Nat → Int) (k : Nat) (B : Int) (hm : 0 ≤ m ∧ m ≤ B) (hf : ∀ i, 0 ≤ f i ∧ f i ≤ B) : 0 ≤ maxFrom m f k ∧ maxFrom m f k ≤ B := maxFrom_bd hm (fun i _ => (hf i).2)
theorem colF_get {xs : List Int} {n k : Nat} (hk : k < 40) : (colL 40 (fun c => (c : Int)) xs n).getD k 0 = flgC xs n k := colL_get hk
theorem colS_get {xs : List Int} {n k : Nat} (hk : k < 4) : (colL 4 (fun c => -(c : Int) - 1) xs n).getD k 0 = subC xs n k := colL_get hk

end Go.Proofs.Ytdighhkgopopeaa
