/- Books: their meanings: plain lists; how many there are. -/
import Derived.Test.YtkbdblaciphmnaaCount
namespace Go.Proofs.Ytkbdblaciphmnaa
set_option linter.unusedVariables false
open Go.RowKit
/-- Lists, each with one more number. -/
def extK (K : Nat) (L : List (List Int)) : List (List Int) := L.flatMap fun m => (List.range K).map fun (x : Nat) => m ++ [(x : Int)]
/-- All lists of so many kinds, in ascending order. -/
def kindsS (K : Nat) : Nat → List (List Int)
  | 0 => [[]]
  | n + 1 => extK K (kindsS K n)
def canH (B : Nat) (m : List Int) : Bool := !(hoistsL m 1 B).isEmpty
/-- The meanings of a book. -/
def bookL (K B : Nat) : Nat → List (List Int)
  | 0 => []
  | n + 1 => bookL K B n ++ (kindsS K (n + 1)).filter (canH B)
theorem extK_append (K : Nat) (L L' : List (List Int)) : extK K (L ++ L') = extK K L ++ extK K L' := by simp [extK]
theorem extK_one (K : Nat) (m : List Int) : extK K [m] = (List.range K).map fun (x : Nat) => m ++ [(x : Int)] := by simp [extK]
theorem mem_extK {K : Nat} {L : List (List Int)} {m : List Int} : m ∈ extK K L ↔ ∃ l ∈ L, ∃ x : Nat, x < K ∧ m = l ++ [(x : Int)] := by
  simp only [extK, List.mem_flatMap, List.mem_map, List.mem_range]
  constructor
  · rintro ⟨l, hl, x, hx, rfl⟩; exact ⟨l, hl, x, hx, rfl⟩
  · rintro ⟨l, hl, x, hx, rfl⟩; exact ⟨l, hl, x, hx, rfl⟩
theorem extK_length (K : Nat) : ∀ L : List (List Int), (extK K L).length = L.length * K
  | [] => by simp [extK]
  | m :: L => by
    have := extK_length K L
    rw [show m :: L = [m] ++ L from rfl, extK_append, List.length_append, this, extK_one, List.length_map, List.length_range, List.length_append, List.length_singleton, Nat.add_mul, Nat.one_mul]
theorem kindsS_length (K : Nat) : ∀ n, (kindsS K n).length = K ^ n
  | 0 => rfl
  | n + 1 => by rw [kindsS, extK_length, kindsS_length K n, Nat.pow_succ]
theorem mem_kindsS {K : Nat} : ∀ {n : Nat} {m : List Int}, m ∈ kindsS K n ↔ m.length = n ∧ ∀ i, i < n → 0 ≤ m.getD i 0 ∧ m.getD i 0 < K
  | 0, m => by
    simp only [kindsS, List.mem_singleton]
    constructor
    · rintro rfl; exact ⟨rfl, fun i hi => by omega⟩
    · rintro ⟨h, _⟩; exact List.length_eq_zero_iff.1 h
  | n + 1, m => by
    rw [kindsS, mem_extK]
    constructor
    · rintro ⟨l, hl, x, hx, rfl⟩
      obtain ⟨h1, h2⟩ := mem_kindsS.1 hl
      refine ⟨by simp [h1], fun i hi => ?_⟩
      by_cases e : i = n
      · subst e; simp [List.getD, ← h1]; exact hx
      · have := h2 i (by omega)
        rw [List.getD_eq_getElem?_getD, List.getElem?_append_left (by omega), ← List.getD_eq_getElem?_getD]; exact this
    · rintro ⟨h1, h2⟩
      have hne : m ≠ [] := by intro e; subst e; simp at h1
      refine ⟨m.dropLast, mem_kindsS.2 ⟨by simp [h1], fun i hi => ?_⟩, (m.getLast hne).toNat, ?_, ?_⟩
      · have := h2 i (by omega)
        have e : m.dropLast.getD i 0 = m.getD i 0 := by
          have hl : i < m.length := by omega
          simp [List.getD, h1, hi, List.getElem?_eq_getElem hl]
        rw [e]; exact this
      · have := h2 n (by omega)
        rw [List.getLast_eq_getElem]
        simp only [List.getD, h1, Nat.add_sub_cancel]  at this ⊢
        rw [List.getElem?_eq_getElem (by omega)] at this
        simp at this; omega
      · have := h2 n (by omega)
        have e : ((m.getLast hne).toNat : Int) = m.getLast hne := by
          rw [List.getLast_eq_getElem]
          simp only [List.getD, h1, Nat.add_sub_cancel] at this ⊢
          rw [List.getElem?_eq_getElem (by omega)] at this
          simp at this; omega
        rw [e, List.dropLast_concat_getLast]
/-- Which lists can be hoisted with one set. -/
def c3 (B : Nat) : List Int → Bool
  | [_] => true
  | [a, b] => !(a == b) || decide (1 ≤ B)
  | [a, b, c] => if b == c then decide (2 ≤ B) else if a == b || a == c then decide (1 ≤ B) else true
  | _ => false
def c3All (n : Nat) : Bool := (List.range 5).all fun B => (kindsS 10 n).all fun m => canH B m == c3 B m
def cntAll (n : Nat) : Bool := (List.range 11).all fun K => (List.range 5).all fun B => decide ((((kindsS K n).filter (c3 B)).length : Int) = sumW K 1 B n (patF n [] 0))
set_option maxRecDepth 100000 in
theorem c3All_all : c3All 1 = true ∧ c3All 2 = true ∧ c3All 3 = true := by decide +kernel
set_option maxRecDepth 100000 in
theorem cntAll_all : cntAll 1 = true ∧ cntAll 2 = true ∧ cntAll 3 = true := by decide +kernel
theorem kindsS_ten {K n : Nat} {m : List Int} (hK : K ≤ 10) (h : m ∈ kindsS K n) : m ∈ kindsS 10 n := by
  obtain ⟨h1, h2⟩ := mem_kindsS.1 h
  exact mem_kindsS.2 ⟨h1, fun i hi => by have := h2 i hi; omega⟩
theorem canH_c3 {K B n : Nat} (hK : K ≤ 10) (hB : B ≤ 4) (h1 : 1 ≤ n) (h3 : n ≤ 3) {m : List Int} (h : m ∈ kindsS K n) : canH B m = c3 B m := by
  have key : c3All n = true := by rcases (show n = 1 ∨ n = 2 ∨ n = 3 by omega) with rfl | rfl | rfl <;> simp [c3All_all]
  have h' := kindsS_ten hK h
  have := List.all_eq_true.1 (List.all_eq_true.1 key B (List.mem_range.2 (by omega))) m h'
  simpa using this
theorem filter_len {K B n : Nat} (hK : K ≤ 10) (hB : B ≤ 4) (h1 : 1 ≤ n) (h3 : n ≤ 3) : (((kindsS K n).filter (canH B)).length : Int) = sumW K 1 B n (patF n [] 0) := by
  have key : cntAll n = true := by rcases (show n = 1 ∨ n = 2 ∨ n = 3 by omega) with rfl | rfl | rfl <;> simp [cntAll_all]
  rw [List.filter_congr fun m hm => canH_c3 hK hB h1 h3 hm]
  have := List.all_eq_true.1 (List.all_eq_true.1 key K (List.mem_range.2 (by omega))) B (List.mem_range.2 (by omega))
  simpa using this
/-- How many meanings there are, counted by lengths. -/
def roomTo (K B : Nat) : Nat → Int
  | 0 => 0
  | n + 1 => roomTo K B n + sumW K 1 B (n + 1) (patF (n + 1) [] 0)
theorem room_len {K B : Nat} (hK : K ≤ 10) (hB : B ≤ 4) : ∀ {n : Nat}, n ≤ 3 → roomTo K B n = ((bookL K B n).length : Int)
  | 0, _ => rfl
  | n + 1, h => by rw [roomTo, room_len hK hB (by omega), ← filter_len hK hB (by omega) (by omega), bookL, List.length_append]; omega
theorem kinds_bd {K n : Nat} (hK : K ≤ 10) (h3 : n ≤ 3) : (kindsS K n).length ≤ 1000 := by
  rw [kindsS_length]
  exact Nat.le_trans (Nat.pow_le_pow_left hK n) (Nat.le_trans (Nat.pow_le_pow_right (by omega) h3) (by decide))
theorem book_bd {K B : Nat} (hK : K ≤ 10) : ∀ {n : Nat}, n ≤ 3 → (bookL K B n).length ≤ n * 1000
  | 0, _ => by simp [bookL]
  | n + 1, h => by
    have h1 := book_bd (B := B) hK (n := n) (by omega)
    have h2 := kinds_bd hK h
    have h3 := List.length_filter_le (canH B) (kindsS K (n + 1))
    rw [bookL, List.length_append]; omega
theorem mem_bookL {K B : Nat} : ∀ {n : Nat} {m : List Int}, m ∈ bookL K B n → ∃ j, 1 ≤ j ∧ j ≤ n ∧ m ∈ kindsS K j ∧ canH B m = true
  | 0, m, h => by simp [bookL] at h
  | n + 1, m, h => by
    rw [bookL] at h
    rcases List.mem_append.1 h with h | h
    · obtain ⟨j, h1, h2, h3⟩ := mem_bookL h
      exact ⟨j, h1, by omega, h3⟩
    · obtain ⟨h1, h2⟩ := List.mem_filter.1 h
      exact ⟨n + 1, by omega, Nat.le_refl _, h1, h2⟩
/-- What comes next, up to a list and a kind. -/
def nextTo (K : Nat) (L : List (List Int)) (i x : Nat) : List (List Int) := extK K (L.take i) ++ (List.range x).map fun (y : Nat) => L.getD i [] ++ [(y : Int)]
theorem nextTo_zero (K : Nat) (L : List (List Int)) : nextTo K L 0 0 = [] := by simp [nextTo, extK]
theorem nextTo_step (K : Nat) (L : List (List Int)) (i x : Nat) : nextTo K L i (x + 1) = nextTo K L i x ++ [L.getD i [] ++ [(x : Int)]] := by
  unfold nextTo; rw [List.range_succ, List.map_append, List.append_assoc]; rfl
theorem nextTo_all {K : Nat} {L : List (List Int)} {i : Nat} (h : i < L.length) : nextTo K L i K = nextTo K L (i + 1) 0 := by
  unfold nextTo
  rw [List.take_succ_eq_append_getElem h, extK_append, extK_one, List.range_zero, List.map_nil, List.append_nil]
  simp [List.getD, List.getElem?_eq_getElem h]
theorem nextTo_end (K : Nat) (L : List (List Int)) : nextTo K L L.length 0 = extK K L := by simp [nextTo]
theorem nextTo_length {K : Nat} {L : List (List Int)} {i x : Nat} (hi : i ≤ L.length) (hx : x ≤ K) : (nextTo K L i x).length ≤ (i + 1) * K := by
  unfold nextTo
  rw [List.length_append, extK_length, List.length_map, List.length_range, List.length_take, Nat.min_eq_left hi, Nat.add_mul]
  omega
theorem filter_snoc (p : List Int → Bool) (L : List (List Int)) (m : List Int) : (L ++ [m]).filter p = if p m then L.filter p ++ [m] else L.filter p := by
  rw [List.filter_append]; cases h : p m <;> simp [h]
end Go.Proofs.Ytkbdblaciphmnaa
