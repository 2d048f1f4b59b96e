/- Words with checks, repaired words, words with a rank, bounds: plain lists and numbers. -/
import Derived.Test.YtojdbeebgllhhabWordM
namespace Go.Proofs.Ytojdbeebgllhhab
open Go.RowKit
/-- A list is handed back with two numbers. -/
def with2 (c d : Int) (v : Value) : Value := .tuple #[v, .int .i64 c, .int .i64 d]
theorem mod_bd {a n : Int} (h : 3 ≤ n) (h2 : n ≤ 37) : 0 ≤ a % n ∧ a % n ≤ 36 := by
  have := Int.emod_nonneg a (show n ≠ 0 by omega)
  have := Int.emod_lt_of_pos a (show 0 < n by omega)
  omega
theorem syn_bd {n : Int} {xs : List Int} (h : 3 ≤ n) (h2 : n ≤ 37) : (0 ≤ synS n xs ∧ synS n xs ≤ 36) ∧ (0 ≤ synW n xs ∧ synW n xs ≤ 36) := ⟨mod_bd h h2, mod_bd h h2⟩
def withY (n : Int) (xs : List Int) : Int := (((xs.length : Int) + 1) * synS n xs - synW n xs) % n
def withX (n : Int) (xs : List Int) : Int := (- synS n xs - withY n xs) % n
def roomB (n : Int) (xs : List Int) : Bool := decide ((xs.length : Int) + 2 ≤ 8) && decide ((xs.length : Int) + 2 ≤ n - 1)
def withC (n : Int) (xs : List Int) : Int := if synC n xs = 0 then (if roomB n xs then 0 else 3) else synC n xs
def withL (n : Int) (xs : List Int) : List Int := if synC n xs = 0 then (if roomB n xs then xs ++ [withX n xs, withY n xs] else []) else []
theorem withL_length (n : Int) (xs : List Int) : (withL n xs).length ≤ 1048576 := by
  unfold withL
  split
  · split
    · rename_i h1 h2
      have := ofB_len (syn_inv h1).2.2.2.1
      simp; omega
    · simp
  · simp
theorem with_bad {n : Int} {xs : List Int} (h : ¬ synC n xs = 0) : withC n xs = synC n xs ∧ withL n xs = [] := by unfold withC withL; rw [if_neg h, if_neg h]; exact ⟨rfl, rfl⟩
theorem with_full {n : Int} {xs : List Int} (h : synC n xs = 0) (h2 : roomB n xs = false) : withC n xs = 3 ∧ withL n xs = [] := by unfold withC withL; rw [if_pos h, if_pos h, h2]; exact ⟨rfl, rfl⟩
theorem with_ok {n : Int} {xs : List Int} (h : synC n xs = 0) (h2 : roomB n xs = true) : withC n xs = 0 ∧ withL n xs = xs ++ [withX n xs, withY n xs] := by unfold withC withL; rw [if_pos h, if_pos h, h2]; exact ⟨rfl, rfl⟩

/-- The first place below k where p holds. -/
def firstOf (p : Nat → Bool) : Nat → Option Nat
  | 0 => none
  | k + 1 => match firstOf p k with
    | some i => some i
    | none => if p k then some k else none
theorem firstOf_none {p : Nat → Bool} {k : Nat} (h : allTo (fun i => !p i) k = true) : firstOf p k = none := by
  induction k with
  | zero => rfl
  | succ k ih =>
    simp only [allTo, Bool.and_eq_true, Bool.not_eq_true'] at h
    rw [firstOf, ih h.1]
    simp [h.2]
theorem firstOf_some {p : Nat → Bool} {i : Nat} (h : allTo (fun i => !p i) i = true) (hp : p i = true) {k : Nat} (hk : i < k) : firstOf p k = some i := by
  induction k with
  | zero => omega
  | succ k ih =>
    rw [firstOf]
    by_cases e : i = k
    · subst e
      rw [firstOf_none h]
      simp [hp]
    · rw [ih (by omega)]
/-- Whether the letter at a place is the wrong one. -/
def fixAt (n : Int) (xs : List Int) (i : Nat) : Bool := decide ((((i : Int) + 1) * synS n xs - synW n xs) % n = 0)
def repO (n : Int) (xs : List Int) : Option Nat := if synS n xs = 0 then none else firstOf (fixAt n xs) xs.length
def fixL (n : Int) (xs : List Int) : Option Nat → List Int
  | some i => xs.set i ((xs.getD i 0 - synS n xs) % n)
  | none => []
def fixI : Option Nat → Int
  | some i => i
  | none => 0
def fixC : Option Nat → Int
  | some _ => 0
  | none => 8
def repL (n : Int) (xs : List Int) : List Int := if synC n xs = 0 then (if zeroB n xs then xs else fixL n xs (repO n xs)) else []
def repI (n : Int) (xs : List Int) : Int := if synC n xs = 0 then (if zeroB n xs then -1 else fixI (repO n xs)) else 0
def repC (n : Int) (xs : List Int) : Int := if synC n xs = 0 then (if zeroB n xs then 0 else fixC (repO n xs)) else synC n xs
theorem repL_length (n : Int) (xs : List Int) : (repL n xs).length ≤ 1048576 := by
  unfold repL
  split
  · rename_i h1
    have := ofB_len (syn_inv h1).2.2.2.1
    split
    · omega
    · cases repO n xs with
      | none => simp [fixL]
      | some i => simp [fixL]; omega
  · simp
theorem rep_bad {n : Int} {xs : List Int} (h : ¬ synC n xs = 0) : repL n xs = [] ∧ repI n xs = 0 ∧ repC n xs = synC n xs := by unfold repL repI repC; rw [if_neg h, if_neg h, if_neg h]; exact ⟨rfl, rfl, rfl⟩
theorem rep_zero {n : Int} {xs : List Int} (h : synC n xs = 0) (h2 : zeroB n xs = true) : repL n xs = xs ∧ repI n xs = -1 ∧ repC n xs = 0 := by unfold repL repI repC; rw [if_pos h, if_pos h, if_pos h, if_pos h2, if_pos h2, if_pos h2]; exact ⟨rfl, rfl, rfl⟩
theorem rep_at {n : Int} {xs : List Int} (h : synC n xs = 0) (h2 : zeroB n xs = false) (hs : ¬ synS n xs = 0) {i : Nat} (hi : i < xs.length) (ha : allTo (fun i => !fixAt n xs i) i = true) (hf : fixAt n xs i = true) :
    repL n xs = xs.set i ((xs.getD i 0 - synS n xs) % n) ∧ repI n xs = (i : Int) ∧ repC n xs = 0 := by
  unfold repL repI repC repO
  rw [if_pos h, if_pos h, if_pos h, h2, if_neg hs, firstOf_some ha hf hi]
  exact ⟨rfl, rfl, rfl⟩
theorem rep_none {n : Int} {xs : List Int} (h : synC n xs = 0) (h2 : zeroB n xs = false) (hs : synS n xs = 0 ∨ allTo (fun i => !fixAt n xs i) xs.length = true) :
    repL n xs = [] ∧ repI n xs = 0 ∧ repC n xs = 8 := by
  unfold repL repI repC repO
  rw [if_pos h, if_pos h, if_pos h, h2]
  by_cases e : synS n xs = 0
  · rw [if_pos e]; exact ⟨rfl, rfl, rfl⟩
  · rw [if_neg e]
    rcases hs with hs | hs
    · exact absurd hs e
    · rw [firstOf_none hs]; exact ⟨rfl, rfl, rfl⟩
/-- How the program asks. -/
theorem fix_iff {n s t : Int} {i : Nat} (h : 3 ≤ n) (ht : 0 ≤ t ∧ t < n) : ((((i : Int) + 1) * s) % n = t) ↔ ((((i : Int) + 1) * s - t) % n = 0) := by
  generalize ((i : Int) + 1) * s = a
  have e : t % n = t := Int.emod_eq_of_lt ht.1 ht.2
  constructor
  · intro h1
    rw [Int.sub_emod, h1, e, Int.sub_self]; rfl
  · intro h1
    have := Int.emod_emod_of_dvd a (Int.dvd_refl n)
    have h2 : a % n = (a - t + t) % n := by rw [show a - t + t = a by omega]
    rw [h2, Int.add_emod, h1, Int.zero_add, e, e]

/-- The numbers that stay when letters are taken off a rank. -/
def quoL (n r : Int) : Nat → Int
  | 0 => r
  | k + 1 => quoL n r k / n
theorem quoL_bd {n r : Int} (n2 : 2 ≤ n) (h0 : 0 ≤ r) (k : Nat) : 0 ≤ quoL n r k ∧ quoL n r k ≤ r := by
  induction k with
  | zero => simp [quoL, h0]
  | succ k ih =>
    rw [quoL]
    have := Int.ediv_le_self n ih.1
    have := Int.ediv_nonneg ih.1 (show 0 ≤ n by omega)
    omega
def atTo (n r : Int) (len k : Nat) : List Int := (List.range len).map fun j => if len ≤ j + k then quoL n r (len - 1 - j) % n else 0
theorem atTo_length (n r : Int) (len k : Nat) : (atTo n r len k).length = len := by simp [atTo]
theorem atTo_zero (n r : Int) (len : Nat) : atTo n r len 0 = List.replicate len 0 := by
  apply List.ext_getElem
  · simp [atTo]
  · intro j h1 h2
    simp [atTo] at h1 ⊢
    omega
theorem atTo_set (n r : Int) {len k : Nat} (hk : k < len) : (atTo n r len k).set (len - 1 - k) (quoL n r k % n) = atTo n r len (k + 1) := by
  apply List.ext_getElem
  · simp [atTo]
  · intro j h1 h2
    rw [List.length_set, atTo_length] at h1
    rw [List.getElem_set]
    simp only [atTo, List.getElem_map, List.getElem_range]
    by_cases e : len - 1 - k = j
    · rw [if_pos e, if_pos (by omega), show len - 1 - j = k by omega]
    · rw [if_neg e]
      by_cases c : len ≤ j + k
      · rw [if_pos c, if_pos (by omega)]
      · rw [if_neg c, if_neg (by omega)]
theorem quo_step {n q : Int} (n2 : 2 ≤ n) (n37 : n ≤ 37) (h0 : 0 ≤ q) : q.tmod n = q % n ∧ q.tdiv n = q / n ∧ 0 ≤ q % n ∧ q % n ≤ 36 := by
  have := Int.emod_nonneg q (show n ≠ 0 by omega)
  have := Int.emod_lt_of_pos q (show 0 < n by omega)
  exact ⟨Int.tmod_eq_emod_of_nonneg h0, Int.tdiv_eq_ediv_of_nonneg h0, by omega, by omega⟩
def askedB (n l : Int) : Bool := betB n 2 37 && betB l 1 8
def wordAtB (n l r : Int) : Bool := askedB n l && betB r 0 (n ^ l.toNat - 1)
def wordAtC (n l r : Int) : Int := if wordAtB n l r then 0 else 2
def wordAtL (n l r : Int) : List Int := if wordAtB n l r then atTo n r l.toNat l.toNat else []
theorem wordAtL_length (n l r : Int) : (wordAtL n l r).length ≤ 1048576 := by
  unfold wordAtL wordAtB askedB
  split
  · rename_i h
    simp only [Bool.and_eq_true, betW] at h
    rw [atTo_length]; omega
  · simp
theorem wordAt_no {n l r : Int} (h : wordAtB n l r = false) : wordAtC n l r = 2 ∧ wordAtL n l r = [] := by unfold wordAtC wordAtL; rw [h]; exact ⟨rfl, rfl⟩
theorem wordAt_ok {n l r : Int} (h : wordAtB n l r = true) : wordAtC n l r = 0 ∧ wordAtL n l r = atTo n r l.toNat l.toNat := by unfold wordAtC wordAtL; rw [h]; exact ⟨rfl, rfl⟩
/-- Powers of at most 37, up to 8. -/
theorem pow_bd {b : Int} (h0 : 0 ≤ b) (h1 : b ≤ 37) (k : Nat) : 0 ≤ b ^ k ∧ b ^ k ≤ 37 ^ k := by
  induction k with
  | zero => simp
  | succ k ih =>
    rw [Int.pow_succ, Int.pow_succ]
    exact ⟨Int.mul_nonneg ih.1 h0, Int.mul_le_mul ih.2 h1 h0 (by omega)⟩
theorem pow_bd8 {b : Int} (h0 : 0 ≤ b) (h1 : b ≤ 37) {k : Nat} (hk : k ≤ 8) : 0 ≤ b ^ k ∧ b ^ k ≤ 3512479453921 := by
  have := pow_bd h0 h1 k
  have := pow37 hk
  omega
theorem pow_step {b : Int} (h0 : 0 ≤ b) (h1 : b ≤ 37) {k : Nat} (hk : k < 8) : IntKind.i64.wrap (b ^ k * b) = b ^ k * b ∧ b ^ (k + 1) = b ^ k * b := by
  have h := pow_bd8 h0 h1 (show k + 1 ≤ 8 by omega)
  rw [Int.pow_succ] at h
  exact ⟨IntWalk.i64_in _ (by omega), Int.pow_succ b k⟩

/-- In how many ways places are chosen. -/
def chooseN (l : Int) : Nat → Int
  | 0 => 1
  | j + 1 => chooseN l j * (l - j) / (j + 1)
def sphereTo (n l : Int) : Nat → Int
  | 0 => 0
  | j + 1 => sphereTo n l j + chooseN l j * (n - 1) ^ j
def sphereB (n l a : Int) : Bool := askedB n l && betB a 1 l
def sphereC (n l a : Int) : Int := if sphereB n l a then 0 else 2
def sphereV (n l a : Int) : Int := if sphereB n l a then n ^ l.toNat / sphereTo n l ((a - 1) / 2 + 1).toNat else 0
theorem sphere_no {n l a : Int} (h : sphereB n l a = false) : sphereC n l a = 2 ∧ sphereV n l a = 0 := by unfold sphereC sphereV; rw [h]; exact ⟨rfl, rfl⟩
theorem sphere_ok {n l a : Int} (h : sphereB n l a = true) : sphereC n l a = 0 ∧ sphereV n l a = n ^ l.toNat / sphereTo n l ((a - 1) / 2 + 1).toNat := by unfold sphereC sphereV; rw [h]; exact ⟨rfl, rfl⟩
end Go.Proofs.Ytojdbeebgllhhab
