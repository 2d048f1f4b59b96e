/- Counts of numbers, the first greatest count, greatest numbers: plain lists. -/
import Derived.Test.YtdighhkgopopeaaKit
namespace Go.Proofs.Ytdighhkgopopeaa
set_option linter.unusedVariables false
open Go.RowKit
/-- How often a number is among the first k of a list. -/
def occ (h : List Int) (c : Int) : Nat → Int
  | 0 => 0
  | k + 1 => occ h c k + (if h.getD k 0 = c then 1 else 0)
theorem occ_bd (h : List Int) (c : Int) (k : Nat) : 0 ≤ occ h c k ∧ occ h c k ≤ k := by
  induction k with
  | zero => simp [occ]
  | succ k ih => simp only [occ]; split <;> omega
theorem occ_yes {h : List Int} {c : Int} {k : Nat} (e : h.getD k 0 = c) : occ h c (k + 1) = occ h c k + 1 := by simp only [occ]; rw [if_pos e]
theorem occ_no {h : List Int} {c : Int} {k : Nat} (e : ¬ h.getD k 0 = c) : occ h c (k + 1) = occ h c k := by simp only [occ]; rw [if_neg e]; omega
theorem occ_zero {h : List Int} {c : Int} {k : Nat} (e : ∀ i, i < k → ¬ h.getD i 0 = c) : occ h c k = 0 := by
  induction k with
  | zero => rfl
  | succ k ih => rw [occ_no (e k (by omega)), ih (fun i hi => e i (by omega))]
theorem occ_pos {h : List Int} {c : Int} {k i : Nat} (hi : i < k) (e : h.getD i 0 = c) : 1 ≤ occ h c k := by
  induction k with
  | zero => omega
  | succ k ih =>
    have hb := occ_bd h c k
    by_cases ek : i = k
    · rw [occ_yes (by rw [← ek]; exact e)]; omega
    · have := ih (by omega)
      simp only [occ]; split <;> omega
/-- The counts of n numbers. -/
def colL (n : Nat) (f : Nat → Int) (h : List Int) (k : Nat) : List Int := (List.range n).map fun c => occ h (f c) k
theorem colL_length (n : Nat) (f : Nat → Int) (h : List Int) (k : Nat) : (colL n f h k).length = n := by simp [colL]
theorem colL_get {n : Nat} {f : Nat → Int} {h : List Int} {k v : Nat} (hv : v < n) : (colL n f h k).getD v 0 = occ h (f v) k := by simp [colL, List.getD, hv]
theorem colL_bd (n : Nat) (f : Nat → Int) (h : List Int) (k v : Nat) : 0 ≤ (colL n f h k).getD v 0 ∧ (colL n f h k).getD v 0 ≤ k := by
  by_cases hv : v < n
  · rw [colL_get hv]; exact occ_bd h _ k
  · simp [List.getD, List.getElem?_eq_none (show (colL n f h k).length ≤ v by rw [colL_length]; omega)]
theorem colL_zero (n : Nat) (f : Nat → Int) (h : List Int) : colL n f h 0 = List.replicate n 0 := by
  unfold colL
  apply List.ext_getElem?
  intro i
  by_cases hi : i < n
  · simp [hi, occ]
  · simp [hi]
theorem colL_hit {n : Nat} {f : Nat → Int} {h : List Int} {k v : Nat} (hv : v < n) (hf : h.getD k 0 = f v) (hi : ∀ c, c < n → f c = f v → c = v) : (colL n f h k).set v ((colL n f h k).getD v 0 + 1) = colL n f h (k + 1) := by
  rw [colL_get hv]
  apply List.ext_getElem?
  intro i
  by_cases e : i = v
  · subst e
    rw [List.getElem?_set_self (by rw [colL_length]; exact hv)]
    simp only [colL, List.getElem?_map, List.getElem?_range hv, Option.map_some]
    rw [occ_yes hf]
  · rw [List.getElem?_set_ne (Ne.symm e)]
    by_cases h6 : i < n
    · simp only [colL, List.getElem?_map, List.getElem?_range h6, Option.map_some]
      rw [occ_no (fun g => e (hi i h6 (by rw [← hf, g])))]
    · rw [List.getElem?_eq_none (by rw [colL_length]; omega), List.getElem?_eq_none (by rw [colL_length]; omega)]
theorem colL_miss {n : Nat} {f : Nat → Int} {h : List Int} {k : Nat} (hm : ∀ c, c < n → ¬ h.getD k 0 = f c) : colL n f h (k + 1) = colL n f h k := by
  unfold colL
  apply List.map_congr_left
  intro c hc
  exact occ_no (hm c (by simpa using hc))
/-- The first greatest one of the first k numbers. -/
def bestOf (ys : List Int) : Nat → Nat
  | 0 => 0
  | c + 1 => if ys.getD (bestOf ys c) 0 < ys.getD c 0 then c else bestOf ys c
theorem bestOf_lt (ys : List Int) (k : Nat) : bestOf ys k < k ∨ bestOf ys k = 0 := by
  induction k with
  | zero => simp [bestOf]
  | succ k ih => simp only [bestOf]; split <;> omega
theorem bestOf_yes {ys : List Int} {c : Nat} (h : ys.getD (bestOf ys c) 0 < ys.getD c 0) : bestOf ys (c + 1) = c := by simp only [bestOf]; rw [if_pos h]
theorem bestOf_no {ys : List Int} {c : Nat} (h : ¬ ys.getD (bestOf ys c) 0 < ys.getD c 0) : bestOf ys (c + 1) = bestOf ys c := by simp only [bestOf]; rw [if_neg h]
theorem bestOf_one (ys : List Int) : bestOf ys 1 = 0 := by simp [bestOf]
/-- Greatest numbers. -/
def maxFrom (m : Int) (f : Nat → Int) : Nat → Int
  | 0 => m
  | k + 1 => if maxFrom m f k < f k then f k else maxFrom m f k
theorem maxFrom_le {m : Int} {f : Nat → Int} {k : Nat} {b : Int} : maxFrom m f k ≤ b ↔ m ≤ b ∧ ∀ i, i < k → f i ≤ b := by
  induction k with
  | zero => simp [maxFrom]
  | succ k ih =>
    simp only [maxFrom]
    constructor
    · intro h
      have h1 : maxFrom m f k ≤ b ∧ f k ≤ b := by split at h <;> omega
      obtain ⟨h2, h3⟩ := ih.1 h1.1
      refine ⟨h2, fun i hi => ?_⟩
      by_cases e : i = k
      · rw [e]; exact h1.2
      · exact h3 i (by omega)
    · rintro ⟨h1, h2⟩
      have h3 := ih.2 ⟨h1, fun i hi => h2 i (by omega)⟩
      have h4 := h2 k (by omega)
      split <;> omega
theorem maxFrom_bd {m : Int} {f : Nat → Int} {k : Nat} {b : Int} (hm : 0 ≤ m ∧ m ≤ b) (hf : ∀ i, i < k → f i ≤ b) : 0 ≤ maxFrom m f k ∧ maxFrom m f k ≤ b := by
  refine ⟨?_, maxFrom_le.2 ⟨hm.2, hf⟩⟩
  have := (maxFrom_le (m := m) (f := f) (k := k)).1 (Int.le_refl _)
  omega
theorem maxFrom_yes {m : Int} {f : Nat → Int} {k : Nat} (h : maxFrom m f k < f k) : maxFrom m f (k + 1) = f k := by simp only [maxFrom]; rw [if_pos h]
theorem maxFrom_no {m : Int} {f : Nat → Int} {k : Nat} (h : ¬ maxFrom m f k < f k) : maxFrom m f (k + 1) = maxFrom m f k := by simp only [maxFrom]; rw [if_neg h]

/-- The cells of a block of two by two. -/
def blkI (b k : Nat) : Nat := (b % 3 * 2 + k % 2) + 6 * (b / 3 * 2 + k / 2)
theorem blkI_lt {b k : Nat} (hb : b < 6) (hk : k < 4) : blkI b k < 24 := by unfold blkI; omega
def blkL (xs : List Int) (b : Nat) : List Int := (List.range 4).map fun k => xs.getD (blkI b k) 0
theorem blkL_length (xs : List Int) (b : Nat) : (blkL xs b).length = 4 := by simp [blkL]
theorem blkL_get (xs : List Int) (b : Nat) {k : Nat} (hk : k < 4) : (blkL xs b).getD k 0 = xs.getD (blkI b k) 0 := by simp [blkL, List.getD, hk]
def blkC (xs : List Int) (b k : Nat) : List Int := colL 6 (fun c => (c : Int)) (blkL xs b) k
theorem blkC_length (xs : List Int) (b k : Nat) : (blkC xs b k).length = 6 := colL_length _ _ _ _
theorem blkC_hit {xs : List Int} {b k v : Nat} (hk : k < 4) (hv : v < 6) (he : xs.getD (blkI b k) 0 = (v : Int)) : (blkC xs b k).set v ((blkC xs b k).getD v 0 + 1) = blkC xs b (k + 1) :=
  colL_hit hv (by rw [blkL_get xs b hk]; exact he) (fun _ _ e => by exact_mod_cast e)
def blurAt (xs : List Int) (b : Nat) : Nat := bestOf (blkC xs b 4) 6
theorem blurAt_lt (xs : List Int) (b : Nat) : blurAt xs b < 6 := by have := bestOf_lt (blkC xs b 4) 6; unfold blurAt; omega
def blurL (xs : List Int) : List Int := (List.range 6).map fun b => (blurAt xs b : Int)
theorem blurL_length (xs : List Int) : (blurL xs).length = 6 := by simp [blurL]
theorem blurL_bytes (xs : List Int) : Bytes (blurL xs) := by
  intro x hx
  simp only [blurL, List.mem_map] at hx
  obtain ⟨b, _, rfl⟩ := hx
  have := blurAt_lt xs b
  omega
end Go.Proofs.Ytdighhkgopopeaa
