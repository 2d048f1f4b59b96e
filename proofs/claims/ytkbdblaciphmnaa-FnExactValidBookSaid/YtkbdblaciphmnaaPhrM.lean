/- Phrases: plain lists of texts; where a phrase is; which ones are as told. -/
import Derived.Test.YtkbdblaciphmnaaHoistM
namespace Go.Proofs.Ytkbdblaciphmnaa
set_option linter.unusedVariables false
open Go.RowKit
/-- The bytes of a text as numbers. -/
def bytesN (s : ByteArray) : List Int := s.data.toList.map fun b => (b.toNat : Int)
theorem bytesN_length (s : ByteArray) : (bytesN s).length = s.size := by simp [bytesN]
theorem bytesN_get (s : ByteArray) {k : Nat} (h : k < s.size) : (bytesN s).getD k 0 = (s[k].toNat : Int) := by
  have hk : k < s.data.toList.length := by simpa using h
  simp only [bytesN, List.getD_eq_getElem?_getD, List.getElem?_map, List.getElem?_eq_getElem hk, Option.map_some, Option.getD_some, Array.getElem_toList]
  rfl
def inAt (cs : List Int) (a b : Int) (i : Nat) : Bool := decide (a ≤ cs.getD i 0) && decide (cs.getD i 0 ≤ b)
theorem inAt_iff {cs : List Int} {a b : Int} {i : Nat} : inAt cs a b i = true ↔ a ≤ cs.getD i 0 ∧ cs.getD i 0 ≤ b := by simp [inAt]
theorem inAt_no {cs : List Int} {a b : Int} {i : Nat} (h : ¬ (a ≤ cs.getD i 0 ∧ cs.getD i 0 ≤ b)) : inAt cs a b i = false := by
  cases e : inAt cs a b i
  · rfl
  · exact absurd (inAt_iff.1 e) h
/-- A text has 1 to so many bytes, all of them from a to b. -/
def txtB (s : ByteArray) (m : Nat) (a b : Int) : Bool := (decide (1 ≤ s.size) && decide (s.size ≤ m)) && allTo (inAt (bytesN s) a b) s.size
theorem txtB_at {s : ByteArray} {m : Nat} {a b : Int} {k : Nat} (hk : k < s.size) (h : ¬ (a ≤ (s[k].toNat : Int) ∧ (s[k].toNat : Int) ≤ b)) : txtB s m a b = false := by
  unfold txtB
  rw [allTo_no hk (inAt_no (by rw [bytesN_get s hk]; exact h)), Bool.and_false]
theorem txtB_all {s : ByteArray} {m : Nat} {a b : Int} (h : allTo (inAt (bytesN s) a b) s.size = true) : txtB s m a b = (decide (1 ≤ s.size) && decide (s.size ≤ m)) := by unfold txtB; rw [h, Bool.and_true]
theorem txtB_len {s : ByteArray} {m : Nat} {a b : Int} (h : ¬ (1 ≤ s.size ∧ s.size ≤ m)) : txtB s m a b = false := by
  unfold txtB
  have e : (decide (1 ≤ s.size) && decide (s.size ≤ m)) = false := by
    cases e : (decide (1 ≤ s.size) && decide (s.size ≤ m))
    · rfl
    · simp only [Bool.and_eq_true, decide_eq_true_eq] at e; exact absurd e h
  rw [e, Bool.false_and]
def phB (s : ByteArray) : Bool := txtB s 40 32 126
def strAt (ss : List ByteArray) (i : Nat) : ByteArray := ss.getD i ByteArray.empty
/-- Where a phrase is for the last time among the first k. -/
def lastTo (ss : List ByteArray) : Nat → ByteArray → Option Nat
  | 0, _ => none
  | k + 1, x => if x = strAt ss k then some k else lastTo ss k x
/-- .. for the first time. -/
def firstTo (ss : List ByteArray) : Nat → ByteArray → Option Nat
  | 0, _ => none
  | k + 1, x => if (firstTo ss k x).isSome then firstTo ss k x else if x = strAt ss k then some k else none
/-- How many different ones there are. -/
def cntD (ss : List ByteArray) : Nat → Nat
  | 0 => 0
  | k + 1 => if (lastTo ss k (strAt ss k)).isSome then cntD ss k else cntD ss k + 1
def freshB (ss : List ByteArray) (i : Nat) : Bool := !(lastTo ss i (strAt ss i)).isSome
theorem lastTo_some {ss : List ByteArray} {x : ByteArray} : ∀ {k : Nat}, (lastTo ss k x).isSome = true ↔ ∃ i, i < k ∧ x = strAt ss i
  | 0 => by simp [lastTo]
  | k + 1 => by
    rw [lastTo]
    by_cases h : x = strAt ss k
    · rw [if_pos h]; simp only [Option.isSome_some, true_iff]; exact ⟨k, by omega, h⟩
    · rw [if_neg h, lastTo_some]
      constructor
      · rintro ⟨i, hi, e⟩; exact ⟨i, by omega, e⟩
      · rintro ⟨i, hi, e⟩
        by_cases hk : i = k
        · subst hk; exact absurd e h
        · exact ⟨i, by omega, e⟩
theorem lastTo_at {ss : List ByteArray} {x : ByteArray} {i : Nat} : ∀ {k : Nat}, lastTo ss k x = some i → i < k ∧ x = strAt ss i
  | 0, h => by cases h
  | k + 1, h => by
    rw [lastTo] at h
    by_cases hx : x = strAt ss k
    · rw [if_pos hx] at h; cases h; exact ⟨by omega, hx⟩
    · rw [if_neg hx] at h; obtain ⟨h1, h2⟩ := lastTo_at h; exact ⟨by omega, h2⟩
theorem firstTo_isSome (ss : List ByteArray) (x : ByteArray) : ∀ k, (firstTo ss k x).isSome = (lastTo ss k x).isSome
  | 0 => rfl
  | k + 1 => by
    have ih := firstTo_isSome ss x k
    rw [firstTo, lastTo]
    by_cases h : (firstTo ss k x).isSome = true
    · rw [if_pos h, h]
      by_cases hx : x = strAt ss k
      · rw [if_pos hx]; rfl
      · rw [if_neg hx, ← ih, h]
    · rw [if_neg h]
      by_cases hx : x = strAt ss k
      · rw [if_pos hx, if_pos hx]
      · rw [if_neg hx, if_neg hx, ← ih]; simp only [Bool.not_eq_true] at h; rw [h]; rfl
theorem firstTo_keep {ss : List ByteArray} {x : ByteArray} {k : Nat} (h : (firstTo ss k x).isSome = true) : ∀ {n : Nat}, k ≤ n → firstTo ss n x = firstTo ss k x
  | 0, hn => by rw [show k = 0 by omega]
  | n + 1, hn => by
    by_cases e : k = n + 1
    · rw [e]
    · have := firstTo_keep h (n := n) (by omega)
      rw [firstTo, this, if_pos h]
/-- Where a phrase is, -1 standing for nowhere. -/
def firstV (ss : List ByteArray) (x : ByteArray) : Int := match firstTo ss ss.length x with | some i => (i : Int) | none => -1
theorem firstV_at {ss : List ByteArray} {x : ByteArray} {k : Nat} (hk : k < ss.length) (h : (firstTo ss k x).isSome = false) (hx : x = strAt ss k) : firstV ss x = (k : Int) := by
  have e : firstTo ss (k + 1) x = some k := by rw [firstTo, h, if_neg (by simp), if_pos hx]
  unfold firstV
  rw [firstTo_keep (k := k + 1) (by rw [e]; rfl) (by omega), e]
theorem firstV_none {ss : List ByteArray} {x : ByteArray} (h : (firstTo ss ss.length x).isSome = false) : firstV ss x = -1 := by
  unfold firstV
  cases hf : firstTo ss ss.length x with
  | none => rfl
  | some i => rw [hf] at h; cases h
theorem firstTo_step {ss : List ByteArray} {x : ByteArray} {k : Nat} (h : (firstTo ss k x).isSome = false) (hx : ¬ x = strAt ss k) : (firstTo ss (k + 1) x).isSome = false := by
  rw [firstTo, h, if_neg (by simp), if_neg hx]; rfl
theorem firstV_fresh {ss : List ByteArray} {i : Nat} (hi : i < ss.length) : firstV ss (strAt ss i) = (i : Int) ↔ freshB ss i = true := by
  unfold freshB
  rw [← firstTo_isSome]
  cases h : (firstTo ss i (strAt ss i)).isSome with
  | false => rw [firstV_at hi h rfl]; simp
  | true =>
    have e := firstTo_keep h (show i ≤ ss.length by omega)
    simp only [Bool.not_true, Bool.false_eq_true, iff_false]
    obtain ⟨j, hj⟩ := Option.isSome_iff_exists.1 h
    have hlt : ∀ {k j : Nat} {x : ByteArray}, firstTo ss k x = some j → j < k := by
      intro k
      induction k with
      | zero => intro j x h; cases h
      | succ k ih =>
        intro j x h
        rw [firstTo] at h
        split at h
        · have := ih h; omega
        · split at h
          · cases h; omega
          · cases h
    have h2 := hlt hj
    unfold firstV
    rw [e, hj]
    simp only
    omega
theorem cntD_le (ss : List ByteArray) : ∀ k, cntD ss k ≤ k
  | 0 => Nat.le_refl _
  | k + 1 => by have := cntD_le ss k; rw [cntD]; split <;> omega
theorem cntD_eq {ss : List ByteArray} : ∀ {k : Nat}, cntD ss k = k ↔ allTo (freshB ss) k = true
  | 0 => by simp [cntD, allTo]
  | k + 1 => by
    have ih := cntD_eq (ss := ss) (k := k)
    have hle := cntD_le ss k
    rw [cntD, allTo, Bool.and_eq_true, ← ih]
    unfold freshB
    cases h : (lastTo ss k (strAt ss k)).isSome with
    | true => simp; omega
    | false => simp
/-- In a book that is as told the last one is the first one. -/
theorem last_first {ss : List ByteArray} {x : ByteArray} : ∀ {k : Nat}, allTo (freshB ss) k = true → firstTo ss k x = lastTo ss k x
  | 0, _ => rfl
  | k + 1, h => by
    rw [allTo, Bool.and_eq_true] at h
    have ih := last_first (x := x) h.1
    rw [firstTo, lastTo, ih]
    by_cases hx : x = strAt ss k
    · subst hx
      have h2 := h.2
      unfold freshB at h2
      simp only [Bool.not_eq_true'] at h2
      rw [h2, if_neg (by simp), if_pos rfl, if_pos rfl]
    · rw [if_neg hx, if_neg hx]
      cases h3 : lastTo ss k x <;> simp

/-- The phrases of a book are as told. -/
def okPh (ss : List ByteArray) (i : Nat) : Bool := phB (strAt ss i) && freshB ss i
theorem okPh_all {ss : List ByteArray} {k : Nat} : allTo (okPh ss) k = (allTo (fun i => phB (strAt ss i)) k && allTo (freshB ss) k) := by
  induction k with
  | zero => rfl
  | succ k ih =>
    simp only [allTo, ih, okPh]
    cases allTo (fun i => phB (strAt ss i)) k <;> cases allTo (freshB ss) k <;> cases phB (strAt ss k) <;> rfl
end Go.Proofs.Ytkbdblaciphmnaa
