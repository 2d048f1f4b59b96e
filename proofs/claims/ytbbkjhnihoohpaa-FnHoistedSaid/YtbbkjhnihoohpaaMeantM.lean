/- A drawn meaning: what it is. -/
import Derived.Test.YtbbkjhnihoohpaaHoistU
namespace Go.Proofs.Ytbbkjhnihoohpaa
open Go.RowKit
/-- A place of what is drawn: a kind, or a break behind a kind. -/
def drawAt (xs : List Int) (i : Nat) : Prop := kindI (xs.getD i 0) = true ∨ (xs.getD i 0 = -10 ∧ 0 < i ∧ kindI (xs.getD (i - 1) 0) = true)
def DrawnL (xs : List Int) : Prop := ∀ i, i < xs.length → drawAt xs i
theorem drawn_nil : DrawnL [] := fun i hi => by simp at hi
theorem getD_before {xs ys : List Int} {i : Nat} (h : i < xs.length) : (xs ++ ys).getD i 0 = xs.getD i 0 := by
  rw [List.getD_eq_getElem?_getD, List.getD_eq_getElem?_getD, List.getElem?_append_left h]
theorem getD_last (xs : List Int) (x : Int) : (xs ++ [x]).getD xs.length 0 = x := by
  rw [List.getD_eq_getElem?_getD, List.getElem?_append_right (Nat.le_refl _)]; simp
theorem drawAt_before {xs ys : List Int} {i : Nat} (h : i < xs.length) (hd : drawAt xs i) : drawAt (xs ++ ys) i := by
  unfold drawAt at hd ⊢
  rw [getD_before h, getD_before (show i - 1 < xs.length by omega)]
  exact hd
theorem drawn_kind {xs : List Int} {x : Int} (h : DrawnL xs) (hx : kindI x = true) : DrawnL (xs ++ [x]) := by
  intro i hi
  rw [List.length_append, List.length_singleton] at hi
  by_cases e : i = xs.length
  · subst e
    left
    rw [getD_last]
    exact hx
  · exact drawAt_before (by omega) (h i (by omega))
theorem drawn_brk {xs : List Int} {x : Int} (h : DrawnL (xs ++ [x])) (hx : kindI x = true) : DrawnL (xs ++ [x] ++ [-10]) := by
  intro i hi
  rw [List.length_append, List.length_singleton] at hi
  by_cases e : i = (xs ++ [x]).length
  · subst e
    right
    refine ⟨getD_last _ _, by simp, ?_⟩
    have e1 : (xs ++ [x]).length - 1 = xs.length := by simp
    rw [e1, getD_before (by simp), getD_last]
    exact hx
  · exact drawAt_before (by omega) (h i (by omega))
theorem getD_take {xs : List Int} {n i : Nat} (h : i < n) : (xs.take n).getD i 0 = xs.getD i 0 := by
  rw [List.getD_eq_getElem?_getD, List.getD_eq_getElem?_getD, List.getElem?_take_of_lt h]
theorem drawn_take {xs : List Int} (h : DrawnL xs) (n : Nat) : DrawnL (xs.take n) := by
  intro i hi
  rw [List.length_take] at hi
  have h1 := h i (by omega)
  unfold drawAt at h1 ⊢
  rw [getD_take (by omega), getD_take (show i - 1 < n by omega)]
  exact h1
theorem drawn_plain {xs : List Int} (h : DrawnL xs) (h1 : 1 ≤ xs.length) (h8 : xs.length ≤ 8) (hl : ¬ xs.getD (xs.length - 1) 0 = -10) : plainH xs = true := by
  unfold plainH validH
  simp only [Bool.and_eq_true, allTo_iff, lenB_iff]
  refine ⟨⟨⟨h1, h8⟩, fun i hi => ?_⟩, fun i hi => ?_⟩
  · unfold okAt
    rcases h i hi with hk | ⟨hb, h0, hp⟩
    · have hk' := kindI_iff.1 hk
      rw [if_neg (by rw [brkI_iff]; omega), if_neg (by rw [subI_iff]; omega)]
      exact hk
    · rw [if_pos (brkI_iff.2 hb)]
      simp only [Bool.and_eq_true, decide_eq_true_eq]
      have hp' := kindI_iff.1 hp
      have e := startOf_no (h := xs) (i := i - 1) (by omega)
      rw [show i - 1 + 1 = i by omega] at e
      have hle := startOf_le xs (i - 1)
      refine ⟨by omega, ?_⟩
      by_cases ei : i = xs.length - 1
      · rw [← ei] at hl; exact absurd hb hl
      · omega
  · unfold ownAt
    simp only [Bool.not_eq_true']
    cases hs : subI (xs.getD i 0)
    · rfl
    · have hs' := subI_iff.1 hs
      rcases h i hi with hk | ⟨hb, -, -⟩
      · have := kindI_iff.1 hk; omega
      · omega
/-- What is drawn, cut behind its eighth place, and before a break at its end. -/
theorem drawn_cut {xs : List Int} (h : DrawnL xs) (h8 : xs.length ≤ 8) (hl : xs.getD (xs.length - 1) 0 = -10) (h1 : 1 ≤ xs.length) : plainH (xs.take (xs.length - 1)) = true := by
  rcases h (xs.length - 1) (by omega) with hk | ⟨-, h0, hp⟩
  · have := kindI_iff.1 hk; omega
  · have e : (xs.take (xs.length - 1)).length = xs.length - 1 := by rw [List.length_take]; omega
    refine drawn_plain (drawn_take h _) (by omega) (by omega) ?_
    rw [e, getD_take (by omega)]
    have := kindI_iff.1 hp
    omega
end Go.Proofs.Ytbbkjhnihoohpaa
