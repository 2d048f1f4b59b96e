/- A story that is checked: plain lists. -/
import Derived.Test.YtlgfibiggiknjaaDoorCode2
import Derived.Test.YtlgfibiggiknjaaDoorGoOn
namespace Go.Proofs.YtlgfibiggiknjaaDoor
set_option linter.unusedVariables false
open Go.RowKit
theorem sp_at {w : World} {a : Option Addr} {F : List (Int × Int)} {i : Nat} (h : CellsOf w a (flCells F)) (hi : i < F.length) : ∃ b off, a = some ⟨b, off, none⟩ ∧ w.rangeAt b (off + i * 2) [.int .i64 (flAt F i).1, .int .i64 (flAt F i).2] := by
  obtain ⟨b, off, rfl, _⟩ := h (i * 2) (by rw [flCells_length]; omega)
  have hr := h.range (i * 2) 2 (by rw [flCells_length]; omega)
  rw [flCells_elem F i hi] at hr
  exact ⟨b, off, rfl, hr⟩
def isP (x : Int × Int) (a : Acct) : Bool := (a.fl == x.1) && (a.se == x.2)
structure Ck where
  i : Nat
  k : Nat
  f : Int
def ckOn (es fs : List En) (c : Ck) (x : Int × Int) : Option Ck := ((accs es fs c.i c.k).find? (isP x)).map fun a => ⟨a.ni c.i, a.nk c.k, c.f + a.cost⟩
def ckTo (es fs : List En) (ss : List (Int × Int)) : Nat → Option Ck
  | 0 => some ⟨0, 0, 0⟩
  | j + 1 => (ckTo es fs ss j).bind fun c => ckOn es fs c (flAt ss j)
def ckEnd (es fs : List En) (ss : List (Int × Int)) : Option Int := (ckTo es fs ss ss.length).bind fun c => if c.i < es.length ∨ c.k < fs.length then none else some c.f
def checkV (es fs : List En) (ss : List (Int × Int)) : Int := if valid2 es fs = true then (ckEnd es fs ss).getD 0 else 0
def checkC (es fs : List En) (ss : List (Int × Int)) : Int := if valid2 es fs = true then (if (ckEnd es fs ss).isSome = true then 0 else 8) else 1
theorem ckTo_none {es fs : List En} {ss : List (Int × Int)} {j : Nat} (h : ckTo es fs ss j = none) : ∀ n, j ≤ n → ckTo es fs ss n = none
  | 0, hn => by obtain rfl : j = 0 := by omega
                exact h
  | n + 1, hn => by
    by_cases e : j = n + 1
    · rw [← e]; exact h
    · rw [ckTo, ckTo_none h n (by omega)]; rfl
theorem ckTo_fail {es fs : List En} {ss : List (Int × Int)} {j : Nat} {c : Ck} (h : ckTo es fs ss j = some c) (hf : (accs es fs c.i c.k).find? (isP (flAt ss j)) = none) (hj : j < ss.length) : ckEnd es fs ss = none := by
  have h1 : ckTo es fs ss (j + 1) = none := by rw [ckTo, h]; show ckOn es fs c (flAt ss j) = none; unfold ckOn; rw [hf]; rfl
  unfold ckEnd
  rw [ckTo_none h1 _ (by omega)]; rfl
theorem ckTo_go {es fs : List En} {ss : List (Int × Int)} {j : Nat} {c : Ck} {a : Acct} (h : ckTo es fs ss j = some c) (hf : (accs es fs c.i c.k).find? (isP (flAt ss j)) = some a) : ckTo es fs ss (j + 1) = some ⟨a.ni c.i, a.nk c.k, c.f + a.cost⟩ := by
  rw [ckTo, h]; show ckOn es fs c (flAt ss j) = _; unfold ckOn; rw [hf]; rfl
/-- The step at which it is no story. -/
def ckP (es fs : List En) (ss : List (Int × Int)) (j : Nat) : Bool := (ckTo es fs ss (j + 1)).isSome
def ckBad (es fs : List En) (ss : List (Int × Int)) : Int := (firstNo (ckP es fs ss) (ss.length + 1) : Nat)
theorem ckTo_all {es fs : List En} {ss : List (Int × Int)} {j : Nat} {c : Ck} (h : ckTo es fs ss j = some c) : allTo (ckP es fs ss) j = true :=
  allTo_iff.2 fun i hi => by
    unfold ckP
    cases hc : ckTo es fs ss (i + 1) with
    | none => rw [ckTo_none hc j (by omega)] at h; cases h
    | some d => rfl
theorem ckBad_at {es fs : List En} {ss : List (Int × Int)} {j : Nat} {c : Ck} (h : ckTo es fs ss j = some c) (hf : (accs es fs c.i c.k).find? (isP (flAt ss j)) = none) (hj : j < ss.length) : ckBad es fs ss = (j : Int) := by
  have h1 : ckTo es fs ss (j + 1) = none := by rw [ckTo, h]; show ckOn es fs c (flAt ss j) = none; unfold ckOn; rw [hf]; rfl
  unfold ckBad
  rw [firstNo_eq (ckTo_all h) (by unfold ckP; rw [h1]; rfl) _ (by omega)]
theorem ckBad_end {es fs : List En} {ss : List (Int × Int)} {c : Ck} (h : ckTo es fs ss ss.length = some c) : ckBad es fs ss = (ss.length : Int) := by
  unfold ckBad
  rw [firstNo, if_pos (ckTo_all h)]
/-- In the model's words. -/
theorem isP_right (i k : Nat) (x : Int × Int) : isP x (.right i k) = (((i : Int) == x.1) && ((k : Int) == x.2)) := rfl
theorem isP_mis (i k : Nat) (x : Int × Int) : isP x (.mis i k) = (((i : Int) == x.1) && ((k : Int) == x.2)) := rfl
theorem isP_drop (i : Nat) (x : Int × Int) : isP x (.drop i) = (((i : Int) == x.1) && ((-1 : Int) == x.2)) := rfl
theorem isP_extra (k : Nat) (x : Int × Int) : isP x (.extra k) = (((-1 : Int) == x.1) && ((k : Int) == x.2)) := rfl
theorem find_both {es fs : List En} {i k : Nat} {x : Int × Int} (h1 : x.1 = i ∧ i < es.length) (h2 : x.2 = k ∧ k < fs.length) :
    (accs es fs i k).find? (isP x) = if bothC (enAt es i) (enAt fs k) < 0 then none else if bothC (enAt es i) (enAt fs k) = 0 then some (.right i k) else some (.mis i k) := by
  obtain ⟨x1, x2⟩ := x
  obtain ⟨rfl, h1⟩ := h1
  obtain ⟨rfl, h2⟩ := h2
  unfold accs
  rw [bothA_eq, if_pos ⟨h1, h2⟩, if_pos h1, if_pos h2]
  have e1 : isP ((i : Int), (k : Int)) (.drop i) = false := by rw [isP_drop]; simp
  have e2 : isP ((i : Int), (k : Int)) (.extra k) = false := by rw [isP_extra]; simp
  have e3 : isP ((i : Int), (k : Int)) (.right i k) = true := by rw [isP_right]; simp
  have e4 : isP ((i : Int), (k : Int)) (.mis i k) = true := by rw [isP_mis]; simp
  split
  · simp [e1, e2]
  · split
    · simp [e3]
    · simp [e4]
theorem find_drop {es fs : List En} {i k : Nat} {x : Int × Int} (h1 : x.1 = i ∧ i < es.length) (h2 : x.2 = -1) : (accs es fs i k).find? (isP x) = some (.drop i) := by
  obtain ⟨x1, x2⟩ := x
  obtain ⟨rfl, h1⟩ := h1
  simp only at h2
  subst h2
  unfold accs
  rw [bothA_eq, if_pos h1]
  have e1 : isP ((i : Int), (-1 : Int)) (.drop i) = true := by rw [isP_drop]; simp
  have e3 : isP ((i : Int), (-1 : Int)) (.right i k) = false := by rw [isP_right]; simp
  have e4 : isP ((i : Int), (-1 : Int)) (.mis i k) = false := by rw [isP_mis]; simp
  split
  · split
    · simp [e1]
    · split
      · simp [e1, e3]
      · simp [e1, e4]
  · simp [e1]
theorem find_extra {es fs : List En} {i k : Nat} {x : Int × Int} (h1 : x.1 = -1) (h2 : x.2 = k ∧ k < fs.length) : (accs es fs i k).find? (isP x) = some (.extra k) := by
  obtain ⟨x1, x2⟩ := x
  obtain ⟨rfl, h2⟩ := h2
  simp only at h1
  subst h1
  unfold accs
  rw [bothA_eq, if_pos h2]
  have e1 : isP ((-1 : Int), (k : Int)) (.drop i) = false := by rw [isP_drop]; simp
  have e2 : isP ((-1 : Int), (k : Int)) (.extra k) = true := by rw [isP_extra]; simp
  have e3 : isP ((-1 : Int), (k : Int)) (.right i k) = false := by rw [isP_right]; simp
  have e4 : isP ((-1 : Int), (k : Int)) (.mis i k) = false := by rw [isP_mis]; simp
  by_cases hi : i < es.length
  · rw [if_pos hi]
    split
    · split
      · simp [e1, e2]
      · split
        · simp [e1, e2, e3]
        · simp [e1, e2, e4]
    · simp [e1, e2]
  · rw [if_neg hi]
    split
    · split
      · simp [e2]
      · split
        · simp [e2, e3]
        · simp [e2, e4]
    · simp [e2]
theorem find_none {es fs : List En} {i k : Nat} {x : Int × Int} (h0 : ¬ ((x.1 = i ∧ i < es.length) ∧ (x.2 = k ∧ k < fs.length))) (h1 : ¬ ((x.1 = i ∧ i < es.length) ∧ x.2 = -1)) (h2 : ¬ ((x.2 = k ∧ k < fs.length) ∧ x.1 = -1)) : (accs es fs i k).find? (isP x) = none := by
  rw [List.find?_eq_none]
  intro a ha
  have hat := accs_at ha
  obtain ⟨x1, x2⟩ := x
  simp only at h0 h1 h2
  rcases hat with ⟨rfl, g1, g2, _⟩ | ⟨rfl, g1, g2, _⟩ | ⟨rfl, g1⟩ | ⟨rfl, g1⟩
  · rw [isP_right]; simp only [Bool.and_eq_true, beq_iff_eq]; exact fun h => h0 ⟨⟨h.1.symm, g1⟩, h.2.symm, g2⟩
  · rw [isP_mis]; simp only [Bool.and_eq_true, beq_iff_eq]; exact fun h => h0 ⟨⟨h.1.symm, g1⟩, h.2.symm, g2⟩
  · rw [isP_drop]; simp only [Bool.and_eq_true, beq_iff_eq]; exact fun h => h1 ⟨⟨h.1.symm, g1⟩, h.2.symm⟩
  · rw [isP_extra]; simp only [Bool.and_eq_true, beq_iff_eq]; exact fun h => h2 ⟨⟨h.2.symm, g1⟩, h.1.symm⟩
/-- Where a story is. -/
theorem ckTo_range {es fs : List En} {ss : List (Int × Int)} : ∀ {j : Nat} {c : Ck}, ckTo es fs ss j = some c → c.i ≤ es.length ∧ c.k ≤ fs.length ∧ 0 ≤ c.f ∧ c.f ≤ 2 * (j : Int)
  | 0, c, h => by
    rw [ckTo] at h
    cases h
    simp
  | j + 1, c, h => by
    rw [ckTo] at h
    cases hc : ckTo es fs ss j with
    | none => rw [hc] at h; cases h
    | some d =>
      rw [hc] at h
      have ih := ckTo_range hc
      change ckOn es fs d (flAt ss j) = some c at h
      unfold ckOn at h
      cases hf : (accs es fs d.i d.k).find? (isP (flAt ss j)) with
      | none => rw [hf] at h; cases h
      | some a =>
        rw [hf] at h
        simp only [Option.map_some, Option.some.injEq] at h
        subst h
        have hat := accs_at (List.mem_of_find?_eq_some hf)
        have hn := acct_next hat
        have hc2 := cost_range a
        simp only
        omega
end Go.Proofs.YtlgfibiggiknjaaDoor
