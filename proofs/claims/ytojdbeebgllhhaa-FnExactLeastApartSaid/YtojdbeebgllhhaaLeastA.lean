/- LeastApart: the least of all distances: plain numbers, and the model's function. -/
import Derived.Test.YtojdbeebgllhhaaNear
namespace Go.Proofs.Ytojdbeebgllhhaa
open Go.RowKit
/-- The least one of a number and of those below k. -/
def minTo (f : Nat → Int) (s : Int) : Nat → Int
  | 0 => s
  | k + 1 => if minTo f s k < f k then minTo f s k else f k
theorem minTo_le (f : Nat → Int) (s : Int) (k : Nat) : minTo f s k ≤ s ∧ ∀ i, i < k → minTo f s k ≤ f i := by
  induction k with
  | zero => exact ⟨Int.le_refl _, fun i hi => absurd hi (Nat.not_lt_zero i)⟩
  | succ k ih =>
    obtain ⟨h1, h2⟩ := ih
    rw [minTo]
    split
    · refine ⟨h1, fun i hi => ?_⟩
      by_cases e : i = k
      · subst e; omega
      · exact h2 i (by omega)
    · refine ⟨by omega, fun i hi => ?_⟩
      by_cases e : i = k
      · subst e; exact Int.le_refl _
      · have := h2 i (by omega); omega
theorem minTo_is (f : Nat → Int) (s : Int) (k : Nat) : minTo f s k = s ∨ ∃ i, i < k ∧ minTo f s k = f i := by
  induction k with
  | zero => exact .inl rfl
  | succ k ih =>
    rw [minTo]
    split
    · rcases ih with h | ⟨i, hi, h⟩
      · exact .inl h
      · exact .inr ⟨i, by omega, h⟩
    · exact .inr ⟨k, by omega, rfl⟩
/-- In how many letters two words of a list differ. -/
def dd (xss : List (List Int)) (l i k : Nat) : Int := diffTo (xss.getD i []) (xss.getD k []) l
def leastTo (xss : List (List Int)) (l : Nat) : Nat → Int
  | 0 => 8
  | i + 1 => minTo (dd xss l i) (leastTo xss l i) i
theorem leastTo_le (xss : List (List Int)) (l n : Nat) : leastTo xss l n ≤ 8 ∧ ∀ i k, i < n → k < i → leastTo xss l n ≤ dd xss l i k := by
  induction n with
  | zero => exact ⟨Int.le_refl _, fun i k hi => absurd hi (Nat.not_lt_zero i)⟩
  | succ n ih =>
    obtain ⟨h1, h2⟩ := ih
    obtain ⟨m1, m2⟩ := minTo_le (dd xss l n) (leastTo xss l n) n
    rw [leastTo]
    refine ⟨Int.le_trans m1 h1, fun i k hi hk => ?_⟩
    by_cases e : i = n
    · subst e; exact m2 k hk
    · exact Int.le_trans m1 (h2 i k (by omega) hk)
theorem leastTo_is (xss : List (List Int)) (l n : Nat) : leastTo xss l n = 8 ∨ ∃ i k, i < n ∧ k < i ∧ leastTo xss l n = dd xss l i k := by
  induction n with
  | zero => exact .inl rfl
  | succ n ih =>
    rw [leastTo]
    rcases minTo_is (dd xss l n) (leastTo xss l n) n with h | ⟨k, hk, h⟩
    · rw [h]
      rcases ih with h2 | ⟨i, k, hi, hk, h2⟩
      · exact .inl h2
      · exact .inr ⟨i, k, by omega, hk, h2⟩
    · exact .inr ⟨n, k, by omega, hk, h⟩
/-- The least distance is the only number that is one of the distances and no greater than any. -/
theorem leastTo_eq {xss : List (List Int)} {l n : Nat} {m : Int} (h2 : 2 ≤ n) (h8 : l ≤ 8) (hle : ∀ i k, i < n → k < i → m ≤ dd xss l i k) (his : ∃ i k, i < n ∧ k < i ∧ m = dd xss l i k) : leastTo xss l n = m := by
  obtain ⟨a1, a2⟩ := leastTo_le xss l n
  obtain ⟨i, k, hi, hk, e⟩ := his
  have b1 := a2 i k hi hk
  have b8 : dd xss l i k ≤ 8 := by have := (diffTo_bd (xss.getD i []) (xss.getD k []) l).2; unfold dd; omega
  rcases leastTo_is xss l n with h | ⟨i', k', hi', hk', h⟩
  · omega
  · have := hle i' k' hi' hk'
    omega
theorem leastTo_bd {xss : List (List Int)} {l n : Nat} : 0 ≤ leastTo xss l n := by
  rcases leastTo_is xss l n with h | ⟨i, k, _, _, h⟩
  · omega
  · have := (diffTo_bd (xss.getD i []) (xss.getD k []) l).1
    rw [h]; exact this
def leastC (xss : List (List Int)) : Int := if wordsB xss then (if 60 < xss.length then 3 else (if xss.length < 2 then 6 else 0)) else 1
def leastV (xss : List (List Int)) : Int := if leastC xss = 0 then leastTo xss (xss.getD 0 []).length xss.length else 0
theorem least_bad {xss : List (List Int)} (h : wordsB xss = false) : leastV xss = 0 ∧ leastC xss = 1 := by unfold leastV leastC; rw [h]; exact ⟨rfl, rfl⟩
theorem least_many {xss : List (List Int)} (h : wordsB xss = true) (h2 : 60 < xss.length) : leastV xss = 0 ∧ leastC xss = 3 := by unfold leastV leastC; rw [h, if_pos h2]; exact ⟨rfl, rfl⟩
theorem least_few {xss : List (List Int)} (h : wordsB xss = true) (h2 : ¬ 60 < xss.length) (h3 : xss.length < 2) : leastV xss = 0 ∧ leastC xss = 6 := by unfold leastV leastC; rw [h, if_neg h2, if_pos h3]; exact ⟨rfl, rfl⟩
theorem least_ok {xss : List (List Int)} (h : wordsB xss = true) (h2 : ¬ 60 < xss.length) (h3 : ¬ xss.length < 2) : leastV xss = leastTo xss (xss.getD 0 []).length xss.length ∧ leastC xss = 0 := by unfold leastV leastC; rw [h, if_neg h2, if_neg h3]; exact ⟨rfl, rfl⟩
set_option maxRecDepth 100000 in
set_option maxHeartbeats 600000 in
theorem l05Listed_any (a : Option Addr) (n cap : Nat) (xss : List (List Int)) (hn : n = xss.length) (hm : n ≤ 1048576) (hz : ∀ i, i < n → (xss.getD i []).length ≤ 1048576) (hf : ∀ i, Fits .u8 (xss.getD i [])) (w : World) (hs : SlicesOf .u8 w a xss) :
    Calls Try.prog 81 #[.slice a n cap] w fun e w' => e = .returned (.int .i64 (listedC xss [])) ∧ Gr w w' := by
  have H := hid (l05Words_any a n cap xss hn hm hz hf w hs)
  have HQ := hid (show listedC xss [] = if wordsB xss then (if 60 < n then 3 else 0) else 1 by unfold listedC; rw [List.append_nil, hn])
  generalize listedC xss [] = r at *
  generalize wordsB xss = b at *
  clear hs hn hz hf
  cases b
  · have HR := hid (show r = 1 from HQ.out)
    clear HQ
    go_enter Try.func81, Try.ntmps81
    go_wp2_with fail
    refine H.out.mono ?_
    rintro e w1 ⟨rfl, g1⟩
    have G := hid g1
    clear g1
    go_wp2_with fail
    go_ret
    exact ⟨ret_int HR.out.symm, G.out⟩
  · by_cases h60 : 60 < n
    · have HR := hid (show r = 3 by rw [HQ.out, if_pos rfl, if_pos h60])
      have t1 : (60 : Int) < n := by omega
      clear HQ
      go_enter Try.func81, Try.ntmps81
      go_wp2_with fail
      refine H.out.mono ?_
      rintro e w1 ⟨rfl, g1⟩
      have G := hid g1
      clear g1
      go_wp2_with fail
      go_ret
      exact ⟨ret_int HR.out.symm, G.out⟩
    · have HR := hid (show r = 0 by rw [HQ.out, if_pos rfl, if_neg h60])
      have t1 : ¬ (60 : Int) < n := by omega
      clear HQ
      go_enter Try.func81, Try.ntmps81
      go_wp2_with fail
      refine H.out.mono ?_
      rintro e w1 ⟨rfl, g1⟩
      have G := hid g1
      clear g1
      go_wp2_with fail
      go_ret
      exact ⟨ret_int HR.out.symm, G.out⟩
end Go.Proofs.Ytojdbeebgllhhaa
