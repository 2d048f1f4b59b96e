/- Patterns of flags, in the order of lists: plain lists. -/
import Derived.Test.YtkbdblaciphmnaaHForL
namespace Go.Proofs.Ytkbdblaciphmnaa
set_option linter.unusedVariables false
open Go.RowKit
def patN (next : List Int → Nat → List (List Int)) (m : List Int) (nx : Nat) : Nat → Nat → List (List Int)
  | _, 0 => []
  | x, c + 1 => next (m ++ [(x : Int)]) (if x = nx then nx + 1 else nx) ++ patN next m nx (x + 1) c
/-- All patterns that go on from m, in which nx numbers have come, with f places more. -/
def patF : Nat → List Int → Nat → List (List Int)
  | 0, m, _ => [m]
  | f + 1, m, nx => patN (patF f) m nx 0 (nx + 1)
/-- How many numbers have come in the first k places. -/
def used (m : List Int) : Nat → Nat
  | 0 => 0
  | k + 1 => if m.getD k 0 = (used m k : Int) then used m k + 1 else used m k
/-- What comes behind a pattern, with the same first places. -/
def remP (m : List Int) (n : Nat) : Nat → List (List Int)
  | 0 => []
  | k + 1 => patN (patF (n - k - 1)) (m.take k) (used m k) ((m.getD k 0).toNat + 1) (used m k - (m.getD k 0).toNat) ++ remP m n k
theorem used_same {m m' : List Int} : ∀ {k : Nat}, (∀ j, j < k → m'.getD j 0 = m.getD j 0) → used m' k = used m k := by
  intro k
  induction k with
  | zero => intro _; rfl
  | succ k ih =>
    intro h
    simp only [used]
    rw [ih (fun j hj => h j (by omega)), h k (by omega)]
theorem used_le (m : List Int) (k : Nat) : used m k ≤ k := by
  induction k with
  | zero => exact Nat.le_refl _
  | succ k ih =>
    simp only [used]
    split <;> omega
theorem used_mono (m : List Int) (k : Nat) : used m k ≤ used m (k + 1) := by
  simp only [used]
  split <;> omega
theorem take_same {m m' : List Int} (hl : m'.length = m.length) {k : Nat} (h : ∀ j, j < k → m'.getD j 0 = m.getD j 0) : m'.take k = m.take k := by
  apply List.ext_getElem?
  intro i
  rw [List.getElem?_take, List.getElem?_take]
  by_cases hi : i < k
  · rw [if_pos hi, if_pos hi]
    have := h i hi
    simp only [List.getD_eq_getElem?_getD] at this
    by_cases hm : i < m.length
    · rw [List.getElem?_eq_getElem hm, List.getElem?_eq_getElem (by omega : i < m'.length)] at this ⊢
      simpa using this
    · rw [List.getElem?_eq_none (by omega), List.getElem?_eq_none (by omega)]
  · rw [if_neg hi, if_neg hi]
theorem remP_same {m m' : List Int} {n : Nat} (hl : m'.length = m.length) : ∀ {k : Nat}, (∀ j, j < k → m'.getD j 0 = m.getD j 0) → remP m' n k = remP m n k := by
  intro k
  induction k with
  | zero => intro _; rfl
  | succ k ih =>
    intro h
    simp only [remP]
    rw [ih (fun j hj => h j (by omega)), h k (by omega), used_same (fun j hj => h j (by omega)), take_same hl (fun j hj => h j (by omega))]
theorem take_next {m : List Int} {k : Nat} (hk : k < m.length) : m.take (k + 1) = m.take k ++ [m.getD k 0] := by
  rw [List.take_succ_eq_append_getElem hk, List.getD_eq_getElem?_getD, List.getElem?_eq_getElem hk]
  rfl
/-- All that share the first k places, where zeros follow. -/
theorem patF_rem {m : List Int} {n : Nat} (hl : m.length = n) : ∀ (f k : Nat), n - k = f → k ≤ n → (∀ j, k ≤ j → j < n → m.getD j 0 = 0) → patF f (m.take k) (used m k) ++ remP m n k = m :: remP m n n := by
  intro f
  induction f with
  | zero =>
    intro k hf hk _
    obtain rfl : k = n := by omega
    rw [patF, List.take_of_length_le (by omega)]
    rfl
  | succ f ih =>
    intro k hf hk hz
    have h0 := hz k (Nat.le_refl _) (by omega)
    have ihk := ih (k + 1) (by omega) (by omega) (fun j h1 h2 => hz j (by omega) h2)
    have hu : used m (k + 1) = if 0 = used m k then used m k + 1 else used m k := by
      simp only [used, h0]
      by_cases h : 0 = used m k
      · rw [if_pos h, if_pos (by omega)]
      · rw [if_neg h, if_neg (by omega)]
    rw [take_next (by omega), h0, hu] at ihk
    rw [← ihk, patF, patN, remP, h0, show n - k - 1 = f by omega]
    simp only [Int.toNat_zero, Nat.zero_add, Nat.sub_zero, List.append_assoc]
    rfl
/-- All patterns of a length. -/
theorem pat_start {n : Nat} : patF n [] 0 = List.replicate n 0 :: remP (List.replicate n 0) n n := by
  have hz : ∀ j, (List.replicate n (0 : Int)).getD j 0 = 0 := fun j => by
    simp only [List.getD_eq_getElem?_getD, List.getElem?_replicate]
    split <;> rfl
  have := patF_rem (m := List.replicate n 0) (n := n) (by simp) n 0 (by omega) (by omega) (fun j _ _ => hz j)
  rw [remP, List.append_nil] at this
  exact this
/-- Nothing more at a place. -/
theorem remP_none {m : List Int} {n k : Nat} (h : used m k ≤ (m.getD k 0).toNat) : remP m n (k + 1) = remP m n k := by
  rw [remP, show used m k - (m.getD k 0).toNat = 0 by omega, patN, List.nil_append]
/-- The next pattern. -/
theorem remP_next {m m' : List Int} {n k : Nat} (hl : m.length = n) (hl' : m'.length = n) (hk : k < n) {x : Nat} (hx : m.getD k 0 = (x : Int)) (hu : x < used m k) (hb : ∀ j, j < k → m'.getD j 0 = m.getD j 0) (hx' : m'.getD k 0 = (x : Int) + 1) (hz : ∀ j, k < j → j < n → m'.getD j 0 = 0) :
    remP m n (k + 1) = m' :: remP m' n n := by
  have hus := used_same (m := m) (m' := m') (k := k) hb
  have hu' : used m' (k + 1) = if x + 1 = used m k then used m k + 1 else used m k := by
    simp only [used, hx', hus]
    by_cases h : x + 1 = used m k
    · rw [if_pos h, if_pos (by omega)]
    · rw [if_neg h, if_neg (by omega)]
  have e := patF_rem (m := m') (n := n) hl' (n - (k + 1)) (k + 1) rfl (by omega) (fun j h1 h2 => hz j (by omega) h2)
  rw [← e, hu', take_next (by omega), hx', take_same (by omega) hb, remP, remP, hx, hx', hus, remP_same (by omega) hb, take_same (by omega) hb]
  obtain ⟨c, hc⟩ : ∃ c, used m k - x = c + 1 := ⟨used m k - x - 1, by omega⟩
  rw [Int.toNat_natCast, show ((x : Int) + 1).toNat = x + 1 by omega, hc, patN, show used m k - (x + 1) = c by omega, show n - k - 1 = n - (k + 1) by omega, List.append_assoc]
  rfl
end Go.Proofs.Ytkbdblaciphmnaa
