/- Uses of phrases, flags until a phrase is sure: as data. -/
import Derived.Test.YtfaiehjomcgjgaaDoorThere
import Derived.Test.YtfaiehjomcgjgaaDoorComps
namespace Go.Proofs.YtfaiehjomcgjgaaDoor
set_option linter.unusedVariables false
open Go.RowKit
def useAt (cs : List Int) (i : Nat) : Bool := betB (cs.getD i 0) 0 1000000
def usesC (k l s : Int) (ss : List ByteArray) (cs : List Int) : Int := if validBk k l s ss then (if decide (cs.length = ss.length) && allTo (useAt cs) cs.length then 0 else 2) else 1
theorem uses_no {k l s : Int} {ss : List ByteArray} {cs : List Int} (h : validBk k l s ss = false) : usesC k l s ss cs = 1 := by unfold usesC; rw [h]; rfl
theorem uses_len {k l s : Int} {ss : List ByteArray} {cs : List Int} (h : validBk k l s ss = true) (h2 : ¬ cs.length = ss.length) : usesC k l s ss cs = 2 := by unfold usesC; rw [h, decide_eq_false h2]; rfl
theorem uses_at {k l s : Int} {ss : List ByteArray} {cs : List Int} {i : Nat} (h : validBk k l s ss = true) (hi : i < cs.length) (h2 : useAt cs i = false) : usesC k l s ss cs = 2 := by
  unfold usesC; rw [h, allTo_no hi h2, Bool.and_false]; rfl
theorem uses_yes {k l s : Int} {ss : List ByteArray} {cs : List Int} (h : validBk k l s ss = true) (h2 : cs.length = ss.length) (h3 : allTo (useAt cs) cs.length = true) : usesC k l s ss cs = 0 := by
  unfold usesC; rw [h, decide_eq_true h2, h3]; rfl
theorem uses_zero {k l s : Int} {ss : List ByteArray} {cs : List Int} (h : usesC k l s ss cs = 0) : validBk k l s ss = true ∧ cs.length = ss.length ∧ allTo (useAt cs) cs.length = true := by
  unfold usesC at h
  cases h1 : validBk k l s ss with
  | false => rw [h1, if_neg (by decide)] at h; exact absurd h (by decide)
  | true =>
    rw [h1, if_pos rfl] at h
    cases h2 : (decide (cs.length = ss.length) && allTo (useAt cs) cs.length) with
    | false => rw [h2] at h; exact absurd h (by decide)
    | true => rw [Bool.and_eq_true, decide_eq_true_iff] at h2; exact ⟨rfl, h2.1, h2.2⟩
theorem uses_cases (k l s : Int) (ss : List ByteArray) (cs : List Int) : usesC k l s ss cs = 0 ∨ usesC k l s ss cs = 1 ∨ usesC k l s ss cs = 2 := by
  unfold usesC
  cases validBk k l s ss with
  | false => exact .inr (.inl rfl)
  | true => cases (decide (cs.length = ss.length) && allTo (useAt cs) cs.length) with
    | false => exact .inr (.inr rfl)
    | true => exact .inl rfl
theorem allTo_at {p : Nat → Bool} : ∀ {n : Nat}, allTo p n = true → ∀ i, i < n → p i = true
  | 0, _, i, hi => by omega
  | n + 1, h, i, hi => by
    cases hp : p i with
    | true => rfl
    | false => rw [allTo_no hi hp] at h; exact absurd h (by decide)
/-- How many flags the first ones need. -/
def flagsTo (L : List (List Int)) (cs : List Int) : Nat → Int
  | 0 => 0
  | j + 1 => flagsTo L cs j + cs.getD j 0 * ((L.getD j []).length : Int)
def flagsV (k l s : Int) (ss : List ByteArray) (cs : List Int) : Int := if usesC k l s ss cs = 0 then flagsTo (meansOf k l s) cs cs.length else 0
theorem book_len3 {K B L j : Nat} (hL : L ≤ 3) (hj : j < (bookL K B L).length) : 1 ≤ ((bookL K B L).getD j []).length ∧ ((bookL K B L).getD j []).length ≤ 3 := by
  have hm : (bookL K B L).getD j [] ∈ bookL K B L := by
    have : (bookL K B L).getD j [] = (bookL K B L)[j] := by simp [List.getD, List.getElem?_eq_getElem hj]
    rw [this]; exact List.getElem_mem hj
  obtain ⟨q, h1, h2, h3, _⟩ := mem_bookL hm
  have := (mem_kindsS.1 h3).1
  omega
theorem prod_bd {c : Int} {p : Nat} (h0 : 0 ≤ c) (h1 : c ≤ 1000000) (hp : p ≤ 3) : 0 ≤ c * (p : Int) ∧ c * (p : Int) ≤ 3000000 := by
  have : p = 0 ∨ p = 1 ∨ p = 2 ∨ p = 3 := by omega
  rcases this with rfl | rfl | rfl | rfl <;> (push_cast; omega)
theorem flagsTo_bd {L : List (List Int)} {cs : List Int} {n : Nat} (hL : ∀ i, i < n → (L.getD i []).length ≤ 3) (hc : ∀ i, i < n → useAt cs i = true) : ∀ j, j ≤ n → 0 ≤ flagsTo L cs j ∧ flagsTo L cs j ≤ 3000000 * (j : Int)
  | 0, _ => ⟨Int.le_refl _, Int.le_refl _⟩
  | j + 1, h => by
    obtain ⟨h1, h2⟩ := flagsTo_bd hL hc j (by omega)
    obtain ⟨h3, h4⟩ := betB_iff.1 (hc j (by omega))
    obtain ⟨h5, h6⟩ := prod_bd h3 h4 (hL j (by omega))
    simp only [flagsTo]
    push_cast
    omega
/-- How many meanings begin as the first p flags of one. -/
def cntP (X : List (List Int)) (n : Nat) (m : List Int) (p : Nat) : Nat := (complTo X (m.take p) n).length
def sureF (X : List (List Int)) (n : Nat) (m : List Int) : Nat → Nat → Nat
  | 0, p => p
  | f + 1, p => if cntP X n m p = 1 then p else sureF X n m f (p + 1)
def sureN (X : List (List Int)) (n : Nat) (m : List Int) : Nat := sureF X n m m.length 1
theorem sureF_here {X : List (List Int)} {n : Nat} {m : List Int} {p : Nat} (hp : p ≤ m.length) (h : cntP X n m p = 1) : sureF X n m (m.length + 1 - p) p = p := by
  rw [show m.length + 1 - p = (m.length - p) + 1 by omega]; simp only [sureF]; rw [if_pos h]
theorem sureF_next {X : List (List Int)} {n : Nat} {m : List Int} {p : Nat} (hp : p ≤ m.length) (h : ¬ cntP X n m p = 1) : sureF X n m (m.length + 1 - (p + 1)) (p + 1) = sureF X n m (m.length + 1 - p) p := by
  rw [show m.length + 1 - p = (m.length - p) + 1 by omega, show m.length + 1 - (p + 1) = m.length - p by omega]
  conv => rhs; unfold sureF
  rw [if_neg h]
theorem sureF_end {X : List (List Int)} {n : Nat} {m : List Int} {p : Nat} (hp : p = m.length + 1) : sureF X n m (m.length + 1 - p) p = p := by
  rw [hp, Nat.sub_self]; rfl
theorem sureF_start (X : List (List Int)) (n : Nat) (m : List Int) : sureF X n m (m.length + 1 - 1) 1 = sureN X n m := rfl
theorem complTo_pos {X : List (List Int)} {q : List Int} {i : Nat} (h : begB (X.getD i []) q = true) : ∀ n, i < n → 1 ≤ (complTo X q n).length
  | 0, hi => by omega
  | n + 1, hi => by
    by_cases hn : i = n
    · subst hn; rw [complTo_yes h]; simp
    · have := complTo_pos h n (by omega)
      cases hb : begB (X.getD n []) q with
      | true => rw [complTo_yes hb]; simp
      | false => rw [← complTo_no hb]; exact this
theorem begB_take {m : List Int} {p : Nat} : begB m (m.take p) = true := by
  unfold begB eqLB
  rw [Bool.and_eq_true, decide_eq_true_iff, decide_eq_true_iff]
  refine ⟨by rw [List.length_take]; omega, ?_⟩
  rw [List.length_take]
  by_cases h : p ≤ m.length
  · rw [Nat.min_eq_left h]
  · rw [Nat.min_eq_right (by omega), List.take_of_length_le (Nat.le_refl _), List.take_of_length_le (by omega)]
theorem cntP_pos {X : List (List Int)} {n i : Nat} (hi : i < n) (p : Nat) : 1 ≤ cntP X n (X.getD i []) p := complTo_pos begB_take n hi
theorem cntP_le (X : List (List Int)) (n : Nat) (m : List Int) (p : Nat) : cntP X n m p ≤ n := complTo_len X _ n
def sureV (k l s : Int) (ss : List ByteArray) (i : Int) : Int := if thereC k l s ss i = 0 then (sureN (meansOf k l s) ss.length ((meansOf k l s).getD i.toNat []) : Int) else 0
theorem sureV_no {k l s : Int} {ss : List ByteArray} {i : Int} (h : ¬ thereC k l s ss i = 0) : sureV k l s ss i = 0 := by unfold sureV; rw [if_neg h]
theorem sureV_at {k l s : Int} {ss : List ByteArray} {j : Nat} (h : thereC k l s ss (j : Int) = 0) : sureV k l s ss (j : Int) = (sureN (meansOf k l s) ss.length ((meansOf k l s).getD j []) : Int) := by unfold sureV; rw [if_pos h, Int.toNat_natCast]
theorem flagsV_no {k l s : Int} {ss : List ByteArray} {cs : List Int} (h : ¬ usesC k l s ss cs = 0) : flagsV k l s ss cs = 0 := by unfold flagsV; rw [if_neg h]
theorem flagsV_yes {k l s : Int} {ss : List ByteArray} {cs : List Int} (h : usesC k l s ss cs = 0) : flagsV k l s ss cs = flagsTo (meansOf k l s) cs cs.length := by unfold flagsV; rw [if_pos h]
end Go.Proofs.YtfaiehjomcgjgaaDoor
