/- Words: what is valid, their ranks and their checks: plain lists and numbers. -/
import Derived.Test.YtojdbeebgllhhabHoistV
namespace Go.Proofs.Ytojdbeebgllhhab
open Go.RowKit
theorem betW {n a b : Int} : betB n a b = true ↔ a ≤ n ∧ n ≤ b := by unfold betB; simp
theorem betW_no {n a b : Int} : betB n a b = false ↔ ¬ (a ≤ n ∧ n ≤ b) := by rw [← betW]; simp
def lettB (n : Int) (xs : List Int) (i : Nat) : Bool := decide (xs.getD i 0 < n)
def belowB (n : Int) (xs : List Int) : Bool := allTo (lettB n xs) xs.length
def wlenB (xs : List Int) : Bool := betB (xs.length : Int) 1 8
/-- A word. -/
def wordB (xs : List Int) : Bool := allTo (lettB 37 xs) xs.length && wlenB xs
/-- A word of so many letters. -/
def ofB (n : Int) (xs : List Int) : Bool := wlenB xs && allTo (lettB (if n ≤ 37 then n else 37) xs) xs.length
theorem ofB_eq (n : Int) (xs : List Int) : ofB n xs = (wordB xs && belowB n xs) := by
  rw [Bool.eq_iff_iff]
  unfold ofB wordB belowB
  simp only [Bool.and_eq_true, allTo_iff, lettB, decide_eq_true_eq]
  constructor
  · rintro ⟨h1, h2⟩
    exact ⟨⟨fun i hi => by have := h2 i hi; split at this <;> omega, h1⟩, fun i hi => by have := h2 i hi; split at this <;> omega⟩
  · rintro ⟨⟨h1, h2⟩, h3⟩
    exact ⟨h2, fun i hi => by have := h1 i hi; have := h3 i hi; split <;> omega⟩
theorem ofB_37 (xs : List Int) : ofB 37 xs = wordB xs := by
  unfold ofB wordB
  rw [if_pos (Int.le_refl _), Bool.and_comm]
theorem ofB_len {n : Int} {xs : List Int} (h : ofB n xs = true) : 1 ≤ xs.length ∧ xs.length ≤ 8 := by
  unfold ofB wlenB at h
  simp only [Bool.and_eq_true, betW] at h
  omega
theorem ofB_lett {n : Int} {xs : List Int} (h : ofB n xs = true) {i : Nat} (hi : i < xs.length) : xs.getD i 0 < n ∧ xs.getD i 0 < 37 := by
  unfold ofB at h
  simp only [Bool.and_eq_true, allTo_iff, lettB, decide_eq_true_eq] at h
  have := h.2 i hi
  split at this <;> omega
theorem wordB_len {xs : List Int} (h : wordB xs = true) : 1 ≤ xs.length ∧ xs.length ≤ 8 := ofB_len ((ofB_37 xs).trans h)
theorem Fits.getu {xs : List Int} (h : Fits .u8 xs) (i : Nat) : 0 ≤ xs.getD i 0 ∧ xs.getD i 0 ≤ 255 := by
  by_cases hi : i < xs.length
  · have h1 := h _ (List.getElem_mem hi)
    have h2 : xs.getD i 0 = xs[i] := by simp [List.getD, List.getElem?_eq_getElem hi]
    rw [h2]
    simpa [Lit.wf, IntKind.min, IntKind.max, IntKind.signed, IntKind.bits] using h1
  · simp [List.getD, List.getElem?_eq_none (by omega : xs.length ≤ i)]

/-- The rank of the first letters. -/
def rankTo (n : Int) (xs : List Int) : Nat → Int
  | 0 => 0
  | k + 1 => rankTo n xs k * n + xs.getD k 0
theorem pow37 {k : Nat} (h : k ≤ 8) : (37 : Int) ^ k ≤ 3512479453921 ∧ 1 ≤ (37 : Int) ^ k := by
  rcases (show k = 0 ∨ k = 1 ∨ k = 2 ∨ k = 3 ∨ k = 4 ∨ k = 5 ∨ k = 6 ∨ k = 7 ∨ k = 8 by omega) with rfl | rfl | rfl | rfl | rfl | rfl | rfl | rfl | rfl <;> decide
theorem rankTo_pow {n : Int} (n2 : 2 ≤ n) (n37 : n ≤ 37) {xs : List Int} (k : Nat) (hx : ∀ i, i < k → 0 ≤ xs.getD i 0 ∧ xs.getD i 0 < n) :
    0 ≤ rankTo n xs k ∧ rankTo n xs k < (37 : Int) ^ k := by
  induction k with
  | zero => simp [rankTo]
  | succ k ih =>
    obtain ⟨h0, h1⟩ := ih (fun i hi => hx i (by omega))
    obtain ⟨a, b⟩ := hx k (by omega)
    have m0 := Int.mul_nonneg h0 (show 0 ≤ n by omega)
    have m1 : rankTo n xs k * n ≤ rankTo n xs k * 37 := Int.mul_le_mul_of_nonneg_left n37 h0
    rw [rankTo, Int.pow_succ]
    omega
/-- What a rank's step needs. -/
theorem rankTo_step {n : Int} (n2 : 2 ≤ n) (n37 : n ≤ 37) {xs : List Int} {k : Nat} (hk : k < 8) (hx : ∀ i, i ≤ k → 0 ≤ xs.getD i 0 ∧ xs.getD i 0 < n) :
    IntKind.i64.wrap (rankTo n xs k * n) = rankTo n xs k * n ∧ IntKind.i64.wrap (rankTo n xs k * n + xs.getD k 0) = rankTo n xs k * n + xs.getD k 0 := by
  obtain ⟨h0, h1⟩ := rankTo_pow n2 n37 k (fun i hi => hx i (by omega))
  obtain ⟨a, b⟩ := hx k (by omega)
  have m0 := Int.mul_nonneg h0 (show 0 ≤ n by omega)
  have m1 : rankTo n xs k * n ≤ rankTo n xs k * 37 := Int.mul_le_mul_of_nonneg_left n37 h0
  have := pow37 (show k ≤ 8 by omega)
  exact ⟨IntWalk.i64_in _ (by omega), IntWalk.i64_in _ (by omega)⟩
def rankC (n : Int) (xs : List Int) : Int := if betB n 2 37 then (if ofB n xs then 0 else 1) else 2
def rankV (n : Int) (xs : List Int) : Int := if rankC n xs = 0 then rankTo n xs xs.length else 0
theorem rank_far {n : Int} {xs : List Int} (h : betB n 2 37 = false) : rankC n xs = 2 ∧ rankV n xs = 0 := by
  unfold rankV rankC; rw [h]; exact ⟨rfl, rfl⟩
theorem rank_bad {n : Int} {xs : List Int} (h : betB n 2 37 = true) (h2 : ofB n xs = false) : rankC n xs = 1 ∧ rankV n xs = 0 := by
  unfold rankV rankC; rw [h, h2]; exact ⟨rfl, rfl⟩
theorem rank_ok {n : Int} {xs : List Int} (h : betB n 2 37 = true) (h2 : ofB n xs = true) : rankC n xs = 0 ∧ rankV n xs = rankTo n xs xs.length := by
  unfold rankV rankC; rw [h, h2]; exact ⟨rfl, rfl⟩

/-- The number is no multiple of i + 2. -/
def divB (n : Int) (i : Nat) : Bool := !(n % ((i : Int) + 2) == 0)
def primeB (n : Int) : Bool := allTo (divB n) (n.toNat - 2)
/-- The remainder that is not negative. -/
theorem tmod_shift {a p : Int} (h : 0 < p) : (a.tmod p + p).tmod p = a % p := by
  have h1 : -p < a.tmod p := by
    have := Int.tmod_lt_of_pos (-a) h
    rw [Int.neg_tmod] at this
    omega
  have h2 : (a.tmod p + p).tmod p = (a.tmod p + p) % p := Int.tmod_eq_emod_of_nonneg (by omega)
  rw [h2, Int.add_emod_right]
  rw [Int.tmod_def, Int.sub_mul_emod_self_left]
def sumL (xs : List Int) : Nat → Int
  | 0 => 0
  | k + 1 => sumL xs k + xs.getD k 0
def wsumL (xs : List Int) : Nat → Int
  | 0 => 0
  | k + 1 => wsumL xs k + ((k : Int) + 1) * xs.getD k 0
theorem sumL_bd {xs : List Int} (h : ∀ i, 0 ≤ xs.getD i 0 ∧ xs.getD i 0 ≤ 255) (k : Nat) : 0 ≤ sumL xs k ∧ sumL xs k ≤ 255 * k := by
  induction k with
  | zero => simp [sumL]
  | succ k ih => have := h k; rw [sumL]; omega
theorem prod_bd {k : Nat} {x : Int} (hk : k < 8) (h0 : 0 ≤ x) (h1 : x ≤ 255) : 0 ≤ ((k : Int) + 1) * x ∧ ((k : Int) + 1) * x ≤ 2040 := by
  refine ⟨Int.mul_nonneg (by omega) h0, ?_⟩
  have : ((k : Int) + 1) * x ≤ 8 * 255 := Int.mul_le_mul (by omega) h1 h0 (by omega)
  omega
theorem wsumL_bd {xs : List Int} (h : ∀ i, 0 ≤ xs.getD i 0 ∧ xs.getD i 0 ≤ 255) (k : Nat) (hk : k ≤ 8) : 0 ≤ wsumL xs k ∧ wsumL xs k ≤ 2040 * k := by
  induction k with
  | zero => simp [wsumL]
  | succ k ih => have := ih (by omega); have := prod_bd (show k < 8 by omega) (h k).1 (h k).2; rw [wsumL]; omega
/-- What is checked first of letters and a word. -/
def synC (n : Int) (xs : List Int) : Int := if betB n 3 37 && primeB n then (if ofB n xs && decide ((xs.length : Int) ≤ n - 1) then 0 else 1) else 2
def synS (n : Int) (xs : List Int) : Int := sumL xs xs.length % n
def synW (n : Int) (xs : List Int) : Int := wsumL xs xs.length % n
theorem syn_far {n : Int} {xs : List Int} (h : (betB n 3 37 && primeB n) = false) : synC n xs = 2 := by unfold synC; rw [h]; rfl
theorem syn_bad {n : Int} {xs : List Int} (h : (betB n 3 37 && primeB n) = true) (h2 : (ofB n xs && decide ((xs.length : Int) ≤ n - 1)) = false) : synC n xs = 1 := by unfold synC; rw [h, h2]; rfl
theorem syn_ok {n : Int} {xs : List Int} (h : (betB n 3 37 && primeB n) = true) (h2 : (ofB n xs && decide ((xs.length : Int) ≤ n - 1)) = true) : synC n xs = 0 := by unfold synC; rw [h, h2]; rfl
theorem syn_inv {n : Int} {xs : List Int} (h : synC n xs = 0) : 3 ≤ n ∧ n ≤ 37 ∧ primeB n = true ∧ ofB n xs = true ∧ (xs.length : Int) ≤ n - 1 := by
  unfold synC at h
  split at h
  · rename_i h1
    split at h
    · rename_i h2
      simp only [Bool.and_eq_true, betW, decide_eq_true_eq] at h1 h2
      exact ⟨h1.1.1, h1.1.2, h1.2, h2.1, h2.2⟩
    · cases h
  · cases h
def synA (n : Int) (xs : List Int) : Int := if synC n xs = 0 then synS n xs else 0
def synB (n : Int) (xs : List Int) : Int := if synC n xs = 0 then synW n xs else 0
def zeroB (n : Int) (xs : List Int) : Bool := synS n xs == 0 && synW n xs == 0
def checkedB (n : Int) (xs : List Int) : Bool := synC n xs == 0 && (synA n xs == 0 && synB n xs == 0)
theorem sum_step {n s x : Int} (h0 : 0 ≤ s) (hn : 0 < n) : (s % n + x) % n = (s + x) % n := by rw [Int.emod_add_emod]
end Go.Proofs.Ytojdbeebgllhhab
