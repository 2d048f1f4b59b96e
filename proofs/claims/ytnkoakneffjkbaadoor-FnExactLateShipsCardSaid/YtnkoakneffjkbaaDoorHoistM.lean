/- Hoists: what is valid, what a hoist means: plain lists. -/
import Derived.Test.YtnkoakneffjkbaaDoorKit
namespace Go.Proofs.YtnkoakneffjkbaaDoor
set_option linter.unusedVariables false
open Go.RowKit

/-- All numbers below k. -/
def allTo (p : Nat → Bool) : Nat → Bool
  | 0 => true
  | k + 1 => allTo p k && p k
theorem allTo_iff {p : Nat → Bool} {k : Nat} : allTo p k = true ↔ ∀ i, i < k → p i = true := by
  induction k with
  | zero => simp [allTo]
  | succ k ih =>
    simp only [allTo, Bool.and_eq_true, ih]
    refine ⟨fun ⟨h, hk⟩ i hi => ?_, fun h => ⟨fun i hi => h i (by omega), h k (by omega)⟩⟩
    by_cases e : i = k
    · rw [e]; exact hk
    · exact h i (by omega)
theorem allTo_no {p : Nat → Bool} {k i : Nat} (hi : i < k) (h : p i = false) : allTo p k = false := by
  cases hk : allTo p k
  · rfl
  · rw [allTo_iff.1 hk i hi] at h; cases h
theorem allTo_step {p : Nat → Bool} {k : Nat} (h : allTo p k = true) (hp : p k = true) : allTo p (k + 1) = true := by simp [allTo, h, hp]

/-- Where the group of a place begins. -/
def startOf (h : List Int) : Nat → Nat
  | 0 => 0
  | i + 1 => if h.getD i 0 = -10 then i + 1 else startOf h i
theorem startOf_le (h : List Int) (i : Nat) : startOf h i ≤ i := by
  induction i with
  | zero => simp [startOf]
  | succ i ih => simp only [startOf]; split <;> omega
theorem startOf_brk {h : List Int} {i : Nat} (hb : h.getD i 0 = -10) : startOf h (i + 1) = i + 1 := by simp only [startOf]; rw [if_pos hb]
theorem startOf_no {h : List Int} {i : Nat} (hb : ¬ h.getD i 0 = -10) : startOf h (i + 1) = startOf h i := by simp only [startOf]; rw [if_neg hb]
theorem startOf_in {h : List Int} {i j : Nat} (h1 : startOf h i ≤ j) (h2 : j < i) : ¬ h.getD j 0 = -10 := by
  induction i with
  | zero => omega
  | succ i ih =>
    intro hb
    by_cases e : h.getD i 0 = -10
    · rw [startOf_brk e] at h1; omega
    · rw [startOf_no e] at h1
      by_cases ej : j = i
      · rw [ej] at hb; exact e hb
      · exact ih h1 (by omega) hb
theorem startOf_congr {h g : List Int} {i : Nat} (hc : ∀ j, j < i → (h.getD j 0 = -10 ↔ g.getD j 0 = -10)) : startOf h i = startOf g i := by
  induction i with
  | zero => rfl
  | succ i ih =>
    have h1 := hc i (by omega)
    have h2 := ih (fun j hj => hc j (by omega))
    simp only [startOf]
    by_cases e : h.getD i 0 = -10
    · rw [if_pos e, if_pos (h1.1 e)]
    · rw [if_neg e, if_neg (fun g => e (h1.2 g)), h2]

def brkI (x : Int) : Bool := decide (x = -10)
def subI (x : Int) : Bool := decide (-4 ≤ x) && decide (x ≤ -1)
def kindI (x : Int) : Bool := decide (0 ≤ x) && decide (x ≤ 39)
/-- A number of a hoist. -/
def numI (x : Int) : Bool := brkI x || (subI x || kindI x)
theorem brkI_iff {x : Int} : brkI x = true ↔ x = -10 := by simp [brkI]
theorem subI_iff {x : Int} : subI x = true ↔ -4 ≤ x ∧ x ≤ -1 := by simp [subI]
theorem kindI_iff {x : Int} : kindI x = true ↔ 0 ≤ x ∧ x ≤ 39 := by simp [kindI]
theorem brkI_no {x : Int} (h : brkI x = false) : ¬ x = -10 := by simpa [brkI] using h
theorem subI_no {x : Int} (h : subI x = false) : ¬ (-4 ≤ x ∧ x ≤ -1) := fun g => by rw [subI_iff.2 g] at h; cases h
theorem kindI_no {x : Int} (h : kindI x = false) : ¬ (0 ≤ x ∧ x ≤ 39) := fun g => by rw [kindI_iff.2 g] at h; cases h

/-- A place is as told. -/
def okAt (h : List Int) (i : Nat) : Bool :=
  if brkI (h.getD i 0) then decide (startOf h i < i) && decide (i + 1 < h.length)
  else if subI (h.getD i 0) then decide (startOf h i + (-(h.getD i 0)).toNat ≤ i) else kindI (h.getD i 0)
def lenB (h : List Int) : Bool := decide (1 ≤ h.length) && decide (h.length ≤ 8)
def validH (h : List Int) : Bool := lenB h && allTo (okAt h) h.length
/-- The program's checks. -/
def numsB (h : List Int) : Bool := allTo (fun i => numI (h.getD i 0)) h.length
def grpAt (h : List Int) (i : Nat) : Bool := !((decide (i = h.length) || brkI (h.getD i 0)) && decide (startOf h i = i))
def grpsB (h : List Int) : Bool := allTo (grpAt h) (h.length + 1)
def repAt (h : List Int) (i : Nat) : Bool := !(subI (h.getD i 0) && decide (i < startOf h i + (-(h.getD i 0)).toNat))
def repsB (h : List Int) : Bool := allTo (repAt h) h.length
theorem lenB_iff {h : List Int} : lenB h = true ↔ 1 ≤ h.length ∧ h.length ≤ 8 := by simp [lenB]

theorem validH_checks (h : List Int) : validH h = (lenB h && (numsB h && (grpsB h && repsB h))) := by
  rw [Bool.eq_iff_iff]
  unfold validH numsB grpsB repsB
  simp only [Bool.and_eq_true, allTo_iff]
  constructor
  · rintro ⟨hl, ho⟩
    have hl' := lenB_iff.1 hl
    refine ⟨hl, fun i hi => ?_, fun i hi => ?_, fun i hi => ?_⟩
    · have h1 := ho i hi
      unfold okAt at h1
      unfold numI
      split at h1
      · rename_i hb; rw [hb]; rfl
      · split at h1
        · rename_i hs; rw [hs]; simp
        · rw [h1]; simp
    · unfold grpAt
      by_cases e : i = h.length
      · have h1 := ho (h.length - 1) (by omega)
        have hle := startOf_le h (h.length - 1)
        have hne : ¬ h.getD (h.length - 1) 0 = -10 := by
          intro hb
          unfold okAt at h1
          rw [if_pos (brkI_iff.2 hb)] at h1
          simp only [Bool.and_eq_true, decide_eq_true_eq] at h1
          omega
        have hs := startOf_no hne
        rw [show h.length - 1 + 1 = h.length by omega] at hs
        have : ¬ startOf h i = i := by rw [e, hs]; omega
        simp [this]
      · have hi' : i < h.length := by omega
        have h1 := ho i hi'
        cases hb : brkI (h.getD i 0)
        · simp [e]
        · unfold okAt at h1
          rw [if_pos hb] at h1
          simp only [Bool.and_eq_true, decide_eq_true_eq] at h1
          have : ¬ startOf h i = i := by omega
          simp [this]
    · unfold repAt
      have h1 := ho i hi
      cases hs : subI (h.getD i 0)
      · simp
      · have hb : brkI (h.getD i 0) = false := by
          have := subI_iff.1 hs
          simp only [brkI, decide_eq_false_iff_not]; omega
        unfold okAt at h1
        rw [if_neg (by rw [hb]; simp), if_pos hs] at h1
        simp only [decide_eq_true_eq] at h1
        have h2 : ¬ i < startOf h i + (-(h.getD i 0)).toNat := by omega
        simp only [decide_eq_false h2]; rfl
  · rintro ⟨hl, hn, hg, hr⟩
    have hl' := lenB_iff.1 hl
    refine ⟨hl, fun i hi => ?_⟩
    have h1 := hn i hi
    have h2 := hg i (by omega)
    have h3 := hr i hi
    unfold okAt
    cases hb : brkI (h.getD i 0)
    · rw [if_neg (by simp)]
      cases hs : subI (h.getD i 0)
      · rw [if_neg (by simp)]
        unfold numI at h1
        rw [hb, hs] at h1
        simpa using h1
      · rw [if_pos rfl]
        unfold repAt at h3
        rw [hs] at h3
        simp only [Bool.true_and, Bool.not_eq_true', decide_eq_false_iff_not] at h3
        simp only [decide_eq_true_eq]; omega
    · rw [if_pos rfl]
      have hbb := brkI_iff.1 hb
      unfold grpAt at h2
      rw [hb] at h2
      simp only [Bool.or_true, Bool.true_and, Bool.not_eq_true', decide_eq_false_iff_not] at h2
      have hle := startOf_le h i
      simp only [Bool.and_eq_true, decide_eq_true_eq]
      refine ⟨by omega, ?_⟩
      by_cases e : i + 1 = h.length
      · have h4 := hg (i + 1) (by omega)
        unfold grpAt at h4
        rw [startOf_brk hbb, e] at h4
        simp at h4
      · omega

/-- What the numbers up to a place mean. -/
def meanTo (h : List Int) : Nat → List Int
  | 0 => []
  | k + 1 => meanTo h k ++ [if subI (h.getD k 0) then (meanTo h k).getD (startOf h k + (-(h.getD k 0)).toNat - 1) 0 else h.getD k 0]
theorem meanTo_length (h : List Int) (k : Nat) : (meanTo h k).length = k := by
  induction k with
  | zero => rfl
  | succ k ih => simp [meanTo, ih]
def meanL (h : List Int) : List Int := meanTo h h.length
theorem meanL_length (h : List Int) : (meanL h).length = h.length := meanTo_length _ _
theorem meanTo_sub {h : List Int} {k : Nat} (hs : subI (h.getD k 0) = true) : meanTo h (k + 1) = meanTo h k ++ [(meanTo h k).getD (startOf h k + (-(h.getD k 0)).toNat - 1) 0] := by simp only [meanTo]; rw [if_pos hs]
theorem meanTo_own {h : List Int} {k : Nat} (hs : subI (h.getD k 0) = false) : meanTo h (k + 1) = meanTo h k ++ [h.getD k 0] := by simp only [meanTo]; rw [if_neg (by rw [hs]; simp)]
theorem getD_snoc_lt {l : List Int} {x : Int} {i : Nat} (h : i < l.length) : (l ++ [x]).getD i 0 = l.getD i 0 := by
  simp [List.getD, List.getElem?_append_left h]
theorem getD_snoc_eq {l : List Int} {x : Int} {i : Nat} (h : i = l.length) : (l ++ [x]).getD i 0 = x := by
  subst h; simp [List.getD]
theorem meanTo_stay {h : List Int} {k i : Nat} (hi : i < k) : (meanTo h k).getD i 0 = (meanTo h (i + 1)).getD i 0 := by
  induction k with
  | zero => omega
  | succ k ih =>
    by_cases e : i = k
    · rw [e]
    · have : (meanTo h (k + 1)).getD i 0 = (meanTo h k).getD i 0 := by
        simp only [meanTo]; exact getD_snoc_lt (by rw [meanTo_length]; omega)
      rw [this]; exact ih (by omega)
/-- In a valid hoist what is repeated lies above, in the group. -/
theorem okAt_sub {h : List Int} {i : Nat} (ho : okAt h i = true) (hs : subI (h.getD i 0) = true) : startOf h i + (-(h.getD i 0)).toNat ≤ i ∧ 1 ≤ (-(h.getD i 0)).toNat := by
  have h1 := subI_iff.1 hs
  unfold okAt at ho
  rw [if_neg (by simp only [brkI, decide_eq_true_eq]; omega), if_pos hs] at ho
  simp only [decide_eq_true_eq] at ho
  omega
theorem okAt_kind {h : List Int} {i : Nat} (ho : okAt h i = true) (hb : ¬ h.getD i 0 = -10) (hs : subI (h.getD i 0) = false) : 0 ≤ h.getD i 0 ∧ h.getD i 0 ≤ 39 := by
  unfold okAt at ho
  rw [if_neg (by simpa [brkI] using hb), if_neg (by rw [hs]; simp)] at ho
  exact kindI_iff.1 ho
/-- Flags and substitutes mean kinds. -/
theorem meanTo_kind {h : List Int} {k : Nat} (ho : allTo (okAt h) k = true) : ∀ i, i < k → ¬ h.getD i 0 = -10 → 0 ≤ (meanTo h k).getD i 0 ∧ (meanTo h k).getD i 0 ≤ 39 := by
  induction k with
  | zero => intro i hi; omega
  | succ k ih =>
    have ho' : allTo (okAt h) k = true := by simp only [allTo, Bool.and_eq_true] at ho; exact ho.1
    have hk : okAt h k = true := by simp only [allTo, Bool.and_eq_true] at ho; exact ho.2
    intro i hi hb
    by_cases e : i = k
    · subst e
      cases hs : subI (h.getD i 0)
      · rw [meanTo_own hs, getD_snoc_eq (meanTo_length h i).symm]
        exact okAt_kind hk hb hs
      · rw [meanTo_sub hs, getD_snoc_eq (meanTo_length h i).symm]
        obtain ⟨h1, h2⟩ := okAt_sub hk hs
        exact ih ho' _ (by omega) (startOf_in (i := i) (by omega) (by omega))
    · have : (meanTo h (k + 1)).getD i 0 = (meanTo h k).getD i 0 := by
        simp only [meanTo]; exact getD_snoc_lt (by rw [meanTo_length]; omega)
      rw [this]; exact ih ho' i (by omega) hb
theorem meanTo_brk {h : List Int} {k i : Nat} (hi : i < k) (hb : h.getD i 0 = -10) : (meanTo h k).getD i 0 = -10 := by
  rw [meanTo_stay hi, meanTo_own (by rw [hb]; rfl), getD_snoc_eq (meanTo_length h i).symm, hb]
/-- The list in which the numbers up to a place have been replaced. -/
def mixTo (h : List Int) (k : Nat) : List Int := meanTo h k ++ h.drop k
theorem mixTo_length {h : List Int} {k : Nat} (hk : k ≤ h.length) : (mixTo h k).length = h.length := by
  simp [mixTo, meanTo_length]; omega
theorem mixTo_zero (h : List Int) : mixTo h 0 = h := by simp [mixTo, meanTo]
theorem mixTo_all (h : List Int) : mixTo h h.length = meanL h := by simp [mixTo, meanL]
theorem mixTo_lt {h : List Int} {k i : Nat} (hi : i < k) : (mixTo h k).getD i 0 = (meanTo h k).getD i 0 := by
  unfold mixTo; simp [List.getD, List.getElem?_append_left (show i < (meanTo h k).length by rw [meanTo_length]; exact hi)]
theorem mixTo_ge {h : List Int} {k i : Nat} (hi : k ≤ i) : (mixTo h k).getD i 0 = h.getD i 0 := by
  unfold mixTo
  simp only [List.getD]
  rw [List.getElem?_append_right (by rw [meanTo_length]; exact hi), meanTo_length, List.getElem?_drop, show k + (i - k) = i by omega]
theorem mixTo_step {h : List Int} {k : Nat} (hk : k < h.length) {x : Int} (hx : meanTo h (k + 1) = meanTo h k ++ [x]) : (mixTo h k).set k x = mixTo h (k + 1) := by
  unfold mixTo
  rw [List.set_append_right _ _ (by rw [meanTo_length]; omega), meanTo_length, Nat.sub_self, hx, List.append_assoc]
  congr 1
  rw [List.drop_eq_getElem_cons hk]
  rfl
theorem mixTo_keep {h : List Int} {k : Nat} (hk : k < h.length) (hs : subI (h.getD k 0) = false) : mixTo h k = mixTo h (k + 1) := by
  rw [← mixTo_step hk (meanTo_own hs)]
  unfold mixTo
  have hd := List.drop_eq_getElem_cons hk
  have hx : h.getD k 0 = h[k] := by simp [List.getD, List.getElem?_eq_getElem hk]
  rw [List.set_append_right _ _ (by rw [meanTo_length]; omega), meanTo_length, Nat.sub_self, hd, hx]
  rfl
theorem startOf_mix {h : List Int} {k : Nat} (ho : allTo (okAt h) k = true) : startOf (mixTo h k) k = startOf h k := by
  refine startOf_congr fun j hj => ?_
  rw [mixTo_lt hj]
  constructor
  · intro hm
    by_cases hb : h.getD j 0 = -10
    · exact hb
    · have := (meanTo_kind ho j hj hb).1; omega
  · intro hb; exact meanTo_brk hj hb
theorem validH_all {h : List Int} (hv : validH h = true) : allTo (okAt h) h.length = true := by unfold validH at hv; simp only [Bool.and_eq_true] at hv; exact hv.2
theorem validH_len {h : List Int} (hv : validH h = true) : 1 ≤ h.length ∧ h.length ≤ 8 := by unfold validH at hv; simp only [Bool.and_eq_true] at hv; exact lenB_iff.1 hv.1
theorem validH_at {h : List Int} (hv : validH h = true) {i : Nat} (hi : i < h.length) : okAt h i = true := allTo_iff.1 (validH_all hv) i hi
theorem allTo_upto {p : Nat → Bool} {k n : Nat} (h : allTo p n = true) (hk : k ≤ n) : allTo p k = true := allTo_iff.2 fun i hi => allTo_iff.1 h i (by omega)
/-- Another flag in the place of a flag. -/
theorem validH_set {h : List Int} (hv : validH h = true) {at' : Nat} (ha : at' < h.length) (hf : 0 ≤ h.getD at' 0) {x : Int} (hx : 0 ≤ x ∧ x ≤ 39) : validH (h.set at' x) = true := by
  have hg : ∀ j, (h.set at' x).getD j 0 = if j = at' then x else h.getD j 0 := by
    intro j
    simp only [List.getD, List.getElem?_set]
    by_cases e : at' = j
    · subst e; simp [ha]
    · simp [e, Ne.symm e]
  have hst : ∀ i, startOf (h.set at' x) i = startOf h i := by
    intro i
    refine startOf_congr fun j _ => ?_
    rw [hg j]
    by_cases e : j = at'
    · subst e; rw [if_pos rfl]; omega
    · rw [if_neg e]
  unfold validH at hv ⊢
  simp only [Bool.and_eq_true] at hv ⊢
  refine ⟨by unfold lenB; rw [List.length_set]; exact hv.1, allTo_iff.2 fun i hi => ?_⟩
  rw [List.length_set] at hi
  have h1 := allTo_iff.1 hv.2 i hi
  unfold okAt at h1 ⊢
  rw [hst, hg, List.length_set]
  by_cases e : i = at'
  · subst e
    rw [if_pos rfl, if_neg (by simp only [brkI, decide_eq_true_eq]; omega), if_neg (by simp only [subI, Bool.and_eq_true, decide_eq_true_eq]; omega)]
    exact kindI_iff.2 hx
  · rw [if_neg e]; exact h1
end Go.Proofs.YtnkoakneffjkbaaDoor
