/- Words that are spelled: plain lists. -/
import Derived.Test.YtfaiehjomcgjgaaHoistT
namespace Go.Proofs.Ytfaiehjomcgjgaa
set_option linter.unusedVariables false
open Go.RowKit
/-- The bytes of a text as numbers. -/
def chars (s : ByteArray) : List Int := s.data.toList.map fun b => (b.toNat : Int)
theorem chars_length (s : ByteArray) : (chars s).length = s.size := by simp [chars]
theorem chars_get (s : ByteArray) {k : Nat} (h : k < s.size) : (chars s).getD k 0 = (s[k].toNat : Int) := by
  have hk : k < s.data.toList.length := by simpa using h
  simp only [chars, List.getD_eq_getElem?_getD, List.getElem?_map, List.getElem?_eq_getElem hk, Option.map_some, Option.getD_some, Array.getElem_toList]
  rfl
theorem chars_bd (s : ByteArray) (k : Nat) : 0 ≤ (chars s).getD k 0 ∧ (chars s).getD k 0 ≤ 255 := by
  by_cases h : k < s.size
  · rw [chars_get s h]
    have := UInt8.toNat_lt s[k]
    omega
  · simp [List.getD, List.getElem?_eq_none (show (chars s).length ≤ k by rw [chars_length]; omega)]
def letAt (cs : List Int) (i : Nat) : Bool := decide (97 ≤ cs.getD i 0) && decide (cs.getD i 0 ≤ 122)
theorem letAt_iff {cs : List Int} {i : Nat} : letAt cs i = true ↔ 97 ≤ cs.getD i 0 ∧ cs.getD i 0 ≤ 122 := by simp [letAt]
theorem letAt_no {cs : List Int} {i : Nat} (h : ¬ (97 ≤ cs.getD i 0 ∧ cs.getD i 0 ≤ 122)) : letAt cs i = false := by
  cases e : letAt cs i
  · rfl
  · exact absurd (letAt_iff.1 e) h
def wordB (cs : List Int) : Bool := lenB cs && allTo (letAt cs) cs.length
theorem wordB_len {cs : List Int} (h : wordB cs = true) : 1 ≤ cs.length ∧ cs.length ≤ 8 := by
  unfold wordB at h; simp only [Bool.and_eq_true] at h; exact lenB_iff.1 h.1
theorem wordB_at {cs : List Int} (h : wordB cs = true) {i : Nat} (hi : i < cs.length) : 97 ≤ cs.getD i 0 ∧ cs.getD i 0 ≤ 122 := by
  unfold wordB at h; simp only [Bool.and_eq_true] at h; exact letAt_iff.1 (allTo_iff.1 h.2 i hi)
/-- The first k letters in groups. -/
def spellTo (cs : List Int) (g : Int) : Nat → List Int
  | 0 => []
  | k + 1 => (if 0 < k ∧ (k : Int) % g = 0 then spellTo cs g k ++ [-10] else spellTo cs g k) ++ [cs.getD k 0 - 97]
theorem spellTo_cut {cs : List Int} {g : Int} {k : Nat} (h : 0 < k ∧ (k : Int) % g = 0) : spellTo cs g (k + 1) = (spellTo cs g k ++ [-10]) ++ [cs.getD k 0 - 97] := by
  rw [spellTo, if_pos h]
theorem spellTo_on {cs : List Int} {g : Int} {k : Nat} (h : ¬ (0 < k ∧ (k : Int) % g = 0)) : spellTo cs g (k + 1) = spellTo cs g k ++ [cs.getD k 0 - 97] := by
  rw [spellTo, if_neg h]
theorem spellTo_length (cs : List Int) (g : Int) (k : Nat) : k ≤ (spellTo cs g k).length ∧ (spellTo cs g k).length ≤ 2 * k := by
  induction k with
  | zero => simp [spellTo]
  | succ k ih => rw [spellTo]; split <;> simp <;> omega
theorem betSp_iff {n a b : Int} : betB n a b = true ↔ a ≤ n ∧ n ≤ b := by simp [betB]
theorem betSp_no {n a b : Int} (h : betB n a b = false) : ¬ (a ≤ n ∧ n ≤ b) := fun g => by rw [betSp_iff.2 g] at h; cases h
def spellC (cs : List Int) (g : Int) : Int := if betB g 1 8 && wordB cs then (if (spellTo cs g cs.length).length ≤ 8 then 0 else 3) else 2
def spellL (cs : List Int) (g : Int) : List Int := if spellC cs g = 0 then spellTo cs g cs.length else []
theorem spellL_length (cs : List Int) (g : Int) : (spellL cs g).length ≤ 8 := by
  unfold spellL
  by_cases h : spellC cs g = 0
  · rw [if_pos h]
    unfold spellC at h
    cases hb : (betB g 1 8 && wordB cs)
    · rw [hb] at h; cases h
    · rw [hb, if_pos rfl] at h
      by_cases hl : (spellTo cs g cs.length).length ≤ 8
      · exact hl
      · rw [if_neg hl] at h; cases h
  · rw [if_neg h]; simp
theorem spellC_out {cs : List Int} {g : Int} (h : (betB g 1 8 && wordB cs) = false) : spellC cs g = 2 ∧ spellL cs g = [] := by
  have e : spellC cs g = 2 := by unfold spellC; rw [h]; rfl
  refine ⟨e, ?_⟩
  unfold spellL
  rw [e]
  rfl
theorem spellC_long {cs : List Int} {g : Int} (h : (betB g 1 8 && wordB cs) = true) (hl : ¬ (spellTo cs g cs.length).length ≤ 8) : spellC cs g = 3 ∧ spellL cs g = [] := by
  have e : spellC cs g = 3 := by unfold spellC; rw [h, if_pos rfl, if_neg hl]
  refine ⟨e, ?_⟩
  unfold spellL
  rw [e]
  rfl
theorem spellC_fine {cs : List Int} {g : Int} (h : (betB g 1 8 && wordB cs) = true) (hl : (spellTo cs g cs.length).length ≤ 8) : spellC cs g = 0 ∧ spellL cs g = spellTo cs g cs.length := by
  have e : spellC cs g = 0 := by unfold spellC; rw [h, if_pos rfl, if_pos hl]
  exact ⟨e, by unfold spellL; rw [if_pos e]⟩
end Go.Proofs.Ytfaiehjomcgjgaa
