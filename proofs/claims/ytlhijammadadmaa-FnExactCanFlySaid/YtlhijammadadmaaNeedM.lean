/- What hoists need: as data. -/
import Derived.Test.YtlhijammadadmaaHoistM
import Derived.Test.YtlhijammadadmaaLock
import Derived.Test.YtlhijammadadmaaLockP
namespace Go.Proofs.Ytlhijammadadmaa
set_option linter.unusedVariables false
open Go.RowKit
/-- The place of a number's piece. -/
def pIdx (v : Int) : Nat := if 0 ≤ v then v.toNat else (39 - v).toNat
theorem pIdx_lt {v : Int} (h : -4 ≤ v ∧ v ≤ 39) : pIdx v < 44 := by unfold pIdx; split <;> omega
theorem pNum_pIdx {v : Int} (h : -4 ≤ v ∧ v ≤ 39) : pNum (pIdx v) = v := by unfold pIdx pNum; split <;> split <;> omega
def bump (ys : List Int) (p : Nat) : List Int := ys.set p (ys.getD p 0 + 1)
theorem bump_length (ys : List Int) (p : Nat) : (bump ys p).length = ys.length := by simp [bump]
theorem bump_get {ys : List Int} {p q : Nat} (hp : p < ys.length) : (bump ys p).getD q 0 = if q = p then ys.getD p 0 + 1 else ys.getD q 0 := by
  unfold bump
  simp only [List.getD, List.getElem?_set]
  by_cases e : q = p
  · subst e; simp [hp]
  · rw [if_neg (fun h => e h.symm), if_neg e]
def addTo (xs h : List Int) : Nat → List Int
  | 0 => xs
  | j + 1 => if h.getD j 0 = -10 then addTo xs h j else bump (addTo xs h j) (pIdx (h.getD j 0))
theorem addTo_brk {xs h : List Int} {j : Nat} (e : h.getD j 0 = -10) : addTo xs h (j + 1) = addTo xs h j := by rw [addTo, if_pos e]
theorem addTo_on {xs h : List Int} {j : Nat} (e : ¬ h.getD j 0 = -10) : addTo xs h (j + 1) = bump (addTo xs h j) (pIdx (h.getD j 0)) := by rw [addTo, if_neg e]
theorem addTo_length (xs h : List Int) : ∀ j, (addTo xs h j).length = xs.length
  | 0 => rfl
  | j + 1 => by
    by_cases e : h.getD j 0 = -10
    · rw [addTo_brk e]; exact addTo_length xs h j
    · rw [addTo_on e, bump_length]; exact addTo_length xs h j
theorem addTo_bd {xs h : List Int} (hl : xs.length = 44) (hn : ∀ i, i < h.length → h.getD i 0 = -10 ∨ (-4 ≤ h.getD i 0 ∧ h.getD i 0 ≤ 39)) : ∀ j, j ≤ h.length → ∀ q, xs.getD q 0 ≤ (addTo xs h j).getD q 0 ∧ (addTo xs h j).getD q 0 ≤ xs.getD q 0 + j
  | 0, _, q => ⟨Int.le_refl _, by simp [addTo]⟩
  | j + 1, hj, q => by
    obtain ⟨h1, h2⟩ := addTo_bd hl hn j (by omega) q
    by_cases e : h.getD j 0 = -10
    · rw [addTo_brk e]; push_cast; omega
    · rw [addTo_on e, bump_get (by rw [addTo_length, hl]; exact pIdx_lt ((hn j (by omega)).resolve_left e))]
      split
      · rename_i hq; subst hq; push_cast; omega
      · push_cast; omega
def needTo (hss : List (List Int)) : Nat → List Int
  | 0 => zeros44
  | i + 1 => addTo (needTo hss i) (hss.getD i []) (hss.getD i []).length
theorem needTo_length (hss : List (List Int)) : ∀ i, (needTo hss i).length = 44
  | 0 => by simp [needTo, zeros44]
  | i + 1 => by rw [needTo, addTo_length]; exact needTo_length hss i
theorem valid_nums {h : List Int} (hv : validH h = true) (i : Nat) (hi : i < h.length) : h.getD i 0 = -10 ∨ (-4 ≤ h.getD i 0 ∧ h.getD i 0 ≤ 39) := by
  have ho := allTo_iff.1 (validH_all hv) i hi
  unfold okAt at ho
  cases hb : brkI (h.getD i 0) with
  | true => exact .inl (brkI_iff.1 hb)
  | false =>
    rw [hb, if_neg (by decide)] at ho
    cases hs : subI (h.getD i 0) with
    | true => have := subI_iff.1 hs; exact .inr (by omega)
    | false => rw [hs, if_neg (by decide)] at ho; have := kindI_iff.1 ho; exact .inr (by omega)
theorem repl_get (n q : Nat) : (List.replicate n (0 : Int)).getD q 0 = 0 := by
  by_cases hq : q < n <;> simp [List.getD, hq]
theorem needTo_bd {hss : List (List Int)} {n : Nat} (hv : ∀ i, i < n → validH (hss.getD i []) = true) : ∀ i, i ≤ n → ∀ q, 0 ≤ (needTo hss i).getD q 0 ∧ (needTo hss i).getD q 0 ≤ 8 * (i : Int)
  | 0, _, q => by
    rw [needTo, show (zeros44).getD q 0 = 0 from repl_get 44 q]; simp
  | i + 1, hi, q => by
    obtain ⟨h1, h2⟩ := needTo_bd hv i (by omega) q
    have hvi := hv i (by omega)
    obtain ⟨h3, h4⟩ := addTo_bd (needTo_length hss i) (valid_nums hvi) (hss.getD i []).length (Nat.le_refl _) q
    have h8 := (validH_len hvi).2
    rw [needTo]
    push_cast
    omega
def hvAtN (hss : List (List Int)) (i : Nat) : Bool := validH (hss.getD i [])
/-- The code of hoists. -/
def hosC (hss : List (List Int)) : Int := if allTo (hvAtN hss) hss.length then (if 6 < hss.length then 3 else 0) else 1
theorem hosC_at {hss : List (List Int)} {i : Nat} (hi : i < hss.length) (h : hvAtN hss i = false) : hosC hss = 1 := by unfold hosC; rw [allTo_no hi h]; rfl
theorem hosC_no {hss : List (List Int)} (h : allTo (hvAtN hss) hss.length = false) : hosC hss = 1 := by unfold hosC; rw [h]; rfl
theorem hosC_long {hss : List (List Int)} (h : allTo (hvAtN hss) hss.length = true) (h2 : 6 < hss.length) : hosC hss = 3 := by unfold hosC; rw [if_pos h, if_pos h2]
theorem hosC_ok {hss : List (List Int)} (h : allTo (hvAtN hss) hss.length = true) (h2 : ¬ 6 < hss.length) : hosC hss = 0 := by unfold hosC; rw [if_pos h, if_neg h2]
theorem hosC_zero {hss : List (List Int)} (h : hosC hss = 0) : allTo (hvAtN hss) hss.length = true ∧ hss.length ≤ 6 := by
  cases h1 : allTo (hvAtN hss) hss.length with
  | false => rw [hosC_no h1] at h; exact absurd h (by decide)
  | true =>
    by_cases h2 : 6 < hss.length
    · rw [hosC_long h1 h2] at h; exact absurd h (by decide)
    · exact ⟨rfl, by omega⟩
theorem hosC_valid {hss : List (List Int)} (h : hosC hss = 0) (i : Nat) (hi : i < hss.length) : validH (hss.getD i []) = true := allTo_iff.1 (hosC_zero h).1 i hi
def nfC (hss : List (List Int)) : Int := if hosC hss = 0 then (if lockB (needTo hss hss.length) then 0 else 3) else hosC hss
def nfV (hss : List (List Int)) : List Int := if nfC hss = 0 then needTo hss hss.length else zeros44
theorem nf_code {hss : List (List Int)} (h : ¬ hosC hss = 0) : nfC hss = hosC hss ∧ nfV hss = zeros44 := by
  have e : nfC hss = hosC hss := by unfold nfC; rw [if_neg h]
  exact ⟨e, by unfold nfV; rw [e, if_neg h]⟩
theorem nf_much {hss : List (List Int)} (h : hosC hss = 0) (h2 : lockB (needTo hss hss.length) = false) : nfC hss = 3 ∧ nfV hss = zeros44 := by
  have e : nfC hss = 3 := by unfold nfC; rw [if_pos h, h2]; rfl
  exact ⟨e, by unfold nfV; rw [e]; rfl⟩
theorem nf_ok {hss : List (List Int)} (h : hosC hss = 0) (h2 : lockB (needTo hss hss.length) = true) : nfC hss = 0 ∧ nfV hss = needTo hss hss.length := by
  have e : nfC hss = 0 := by unfold nfC; rw [if_pos h, h2]; rfl
  exact ⟨e, by unfold nfV; rw [if_pos e]⟩
theorem nfV_length (hss : List (List Int)) : (nfV hss).length = 44 := by
  unfold nfV; split
  · exact needTo_length _ _
  · simp [zeros44]
/-- The code of a locker and hoists. -/
def flC (xs : List Int) (hss : List (List Int)) : Int := if lockB xs then hosC hss else 1
def cfV (xs : List Int) (hss : List (List Int)) : Bool := if flC xs hss = 0 then covTo xs (needTo hss hss.length) 44 else false
theorem fl_no {xs : List Int} {hss : List (List Int)} (h : lockB xs = false) : flC xs hss = 1 := by unfold flC; rw [h]; rfl
theorem fl_yes {xs : List Int} {hss : List (List Int)} (h : lockB xs = true) : flC xs hss = hosC hss := by unfold flC; rw [if_pos h]
theorem fl_zero {xs : List Int} {hss : List (List Int)} (h : flC xs hss = 0) : lockB xs = true ∧ hosC hss = 0 := by
  cases h1 : lockB xs with
  | false => rw [fl_no h1] at h; exact absurd h (by decide)
  | true => rw [fl_yes h1] at h; exact ⟨rfl, h⟩
theorem cf_no {xs : List Int} {hss : List (List Int)} (h : ¬ flC xs hss = 0) : cfV xs hss = false := by unfold cfV; rw [if_neg h]
theorem cf_yes {xs : List Int} {hss : List (List Int)} (h : flC xs hss = 0) : cfV xs hss = covTo xs (needTo hss hss.length) 44 := by unfold cfV; rw [if_pos h]
/-- The first hoist that can't be flown. -/
def grnF (xs : List Int) (hss : List (List Int)) : Nat → Nat → Option Nat
  | 0, _ => none
  | f + 1, i => if covTo xs (needTo hss (i + 1)) 44 then grnF xs hss f (i + 1) else some i
def fgV (xs : List Int) (hss : List (List Int)) : Int := if flC xs hss = 0 then (match grnF xs hss hss.length 0 with | some i => (i : Int) | none => 0) else 0
def fgC (xs : List Int) (hss : List (List Int)) : Int := if flC xs hss = 0 then (match grnF xs hss hss.length 0 with | some _ => 0 | none => 6) else flC xs hss
theorem fg_no {xs : List Int} {hss : List (List Int)} (h : ¬ flC xs hss = 0) : fgV xs hss = 0 ∧ fgC xs hss = flC xs hss := by unfold fgV fgC; rw [if_neg h, if_neg h]; exact ⟨rfl, rfl⟩
theorem grnF_on {xs : List Int} {hss : List (List Int)} {n i : Nat} (hi : i < n) (h : covTo xs (needTo hss (i + 1)) 44 = true) : grnF xs hss (n - i) i = grnF xs hss (n - (i + 1)) (i + 1) := by
  rw [show n - i = (n - (i + 1)) + 1 by omega]; simp only [grnF]; rw [if_pos h]
theorem grnF_here {xs : List Int} {hss : List (List Int)} {n i : Nat} (hi : i < n) (h : covTo xs (needTo hss (i + 1)) 44 = false) : grnF xs hss (n - i) i = some i := by
  rw [show n - i = (n - (i + 1)) + 1 by omega]; simp only [grnF]; rw [if_neg (by rw [h]; decide)]
theorem fg_at {xs : List Int} {hss : List (List Int)} {i : Nat} (h : flC xs hss = 0) (e : grnF xs hss hss.length 0 = some i) : fgV xs hss = (i : Int) ∧ fgC xs hss = 0 := by unfold fgV fgC; rw [if_pos h, if_pos h, e]; exact ⟨rfl, rfl⟩
theorem fg_none {xs : List Int} {hss : List (List Int)} (h : flC xs hss = 0) (e : grnF xs hss hss.length 0 = none) : fgV xs hss = 0 ∧ fgC xs hss = 6 := by unfold fgV fgC; rw [if_pos h, if_pos h, e]; exact ⟨rfl, rfl⟩
end Go.Proofs.Ytlhijammadadmaa
