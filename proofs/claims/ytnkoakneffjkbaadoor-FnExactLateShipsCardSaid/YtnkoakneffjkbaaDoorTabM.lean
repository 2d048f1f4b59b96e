/- Two logs: the least faults, the story, the longest list of pairs that agree: plain lists. -/
import Derived.Test.YtnkoakneffjkbaaDoorFlyM
namespace Go.Proofs.YtnkoakneffjkbaaDoor
set_option linter.unusedVariables false
open Go.RowKit
def agE (x y : En) : Bool := (x.s == y.s) && (x.d == y.d)
/-- What a story says at a step. -/
inductive Acct where
  | right (i k : Nat)
  | mis (i k : Nat)
  | drop (i : Nat)
  | extra (k : Nat)
def Acct.cost : Acct → Int
  | .right _ _ => 0
  | .mis _ _ => 1
  | .drop _ => 1
  | .extra _ => 2
def Acct.fl : Acct → Int
  | .right i _ => i
  | .mis i _ => i
  | .drop i => i
  | .extra _ => -1
def Acct.se : Acct → Int
  | .right _ k => k
  | .mis _ k => k
  | .drop _ => -1
  | .extra k => k
def Acct.ni (a : Acct) (i : Nat) : Nat := if a.fl = -1 then i else i + 1
def Acct.nk (a : Acct) (k : Nat) : Nat := if a.se = -1 then k else k + 1
def bothC (x y : En) : Int := if x.d = y.d then (if x.s = y.s then 0 else 1) else -1
def bothA (x y : En) (i k : Nat) : List Acct := if agE x y = true then [.right i k] else if x.d = y.d then [.mis i k] else []
/-- The accounts with which a story can go on. -/
def accs (es fs : List En) (i k : Nat) : List Acct :=
  (if i < es.length ∧ k < fs.length then bothA (enAt es i) (enAt fs k) i k else []) ++ ((if i < es.length then [.drop i] else []) ++ (if k < fs.length then [.extra k] else []))
/-- The least faults of what is left. -/
def costT (es fs : List En) (i k : Nat) : Int :=
  if i < es.length then
    if k < fs.length then
      if bothC (enAt es i) (enAt fs k) < 0 then min (1 + costT es fs (i + 1) k) (2 + costT es fs i (k + 1))
      else min (bothC (enAt es i) (enAt fs k) + costT es fs (i + 1) (k + 1)) (min (1 + costT es fs (i + 1) k) (2 + costT es fs i (k + 1)))
    else 1 + costT es fs (i + 1) k
  else if k < fs.length then 2 + costT es fs i (k + 1) else 0
termination_by (es.length - i) + (fs.length - k)
theorem bothC_range (x y : En) : -1 ≤ bothC x y ∧ bothC x y ≤ 1 := by
  unfold bothC
  split
  · split <;> omega
  · omega
theorem costT_range (es fs : List En) (N : Nat) : ∀ (i k : Nat), (es.length - i) + (fs.length - k) = N → 0 ≤ costT es fs i k ∧ costT es fs i k ≤ 2 * (N : Int) := by
  induction N using Nat.strongRecOn with
  | ind N ih =>
    intro i k h
    have hb := bothC_range (enAt es i) (enAt fs k)
    rw [costT]
    by_cases hi : i < es.length
    · have h1 := ih (N - 1) (by omega) (i + 1) k (by omega)
      rw [if_pos hi]
      by_cases hk : k < fs.length
      · have h2 := ih (N - 1) (by omega) i (k + 1) (by omega)
        have h3 := ih (N - 2) (by omega) (i + 1) (k + 1) (by omega)
        rw [if_pos hk]
        split <;> omega
      · rw [if_neg hk]; omega
    · rw [if_neg hi]
      by_cases hk : k < fs.length
      · have h2 := ih (N - 1) (by omega) i (k + 1) (by omega)
        rw [if_pos hk]; omega
      · rw [if_neg hk]; omega
theorem costT_bd (es fs : List En) (i k : Nat) (h1 : es.length ≤ 60) (h2 : fs.length ≤ 60) : 0 ≤ costT es fs i k ∧ costT es fs i k ≤ 240 := by
  have := costT_range es fs _ i k rfl
  omega
/-- The first one with the least faults. -/
def pickStep (T : Nat → Nat → Int) (i k : Nat) (st : Option Acct × Int) (a : Acct) : Option Acct × Int :=
  if st.1.isNone = true ∨ a.cost + T (a.ni i) (a.nk k) < st.2 then (some a, a.cost + T (a.ni i) (a.nk k)) else st
def pickL (T : Nat → Nat → Int) (i k : Nat) (l : List Acct) : Option Acct × Int := l.foldl (pickStep T i k) (none, 0)
theorem pickL_snoc (T : Nat → Nat → Int) (i k : Nat) (l : List Acct) (a : Acct) : pickL T i k (l ++ [a]) = pickStep T i k (pickL T i k l) a := by simp [pickL]
/-- The account with which the story goes on. -/
def pickA (es fs : List En) (i k : Nat) : Acct :=
  if i < es.length then
    if k < fs.length then
      if 0 ≤ bothC (enAt es i) (enAt fs k) ∧ bothC (enAt es i) (enAt fs k) + costT es fs (i + 1) (k + 1) = costT es fs i k then (if agE (enAt es i) (enAt fs k) = true then .right i k else .mis i k)
      else if 1 + costT es fs (i + 1) k = costT es fs i k then .drop i else .extra k
    else .drop i
  else .extra k
theorem agE_iff {x y : En} : agE x y = true ↔ x.s = y.s ∧ x.d = y.d := by simp [agE]
theorem bothA_eq (x y : En) (i k : Nat) : bothA x y i k = if bothC x y < 0 then [] else if bothC x y = 0 then [.right i k] else [.mis i k] := by
  unfold bothA bothC
  by_cases hd : x.d = y.d
  · by_cases hs : x.s = y.s
    · rw [if_pos (agE_iff.2 ⟨hs, hd⟩), if_pos hd, if_pos hs]; rfl
    · rw [if_neg (fun h => hs (agE_iff.1 h).1), if_pos hd, if_pos hd, if_neg hs]; rfl
  · rw [if_neg (fun h => hd (agE_iff.1 h).2), if_neg hd, if_neg hd]; rfl
theorem agE_bothC (x y : En) : agE x y = true ↔ bothC x y = 0 := by
  unfold bothC
  rw [agE_iff]
  by_cases hd : x.d = y.d
  · by_cases hs : x.s = y.s
    · simp [hd, hs]
    · simp [hd, hs]
  · simp [hd]
theorem ni_right (i k j : Nat) : (Acct.right i k).ni j = j + 1 := by simp [Acct.ni, Acct.fl]
theorem nk_right (i k j : Nat) : (Acct.right i k).nk j = j + 1 := by simp [Acct.nk, Acct.se]
theorem ni_mis (i k j : Nat) : (Acct.mis i k).ni j = j + 1 := by simp [Acct.ni, Acct.fl]
theorem nk_mis (i k j : Nat) : (Acct.mis i k).nk j = j + 1 := by simp [Acct.nk, Acct.se]
theorem ni_drop (i j : Nat) : (Acct.drop i).ni j = j + 1 := by simp [Acct.ni, Acct.fl]
theorem nk_drop (i j : Nat) : (Acct.drop i).nk j = j := by simp [Acct.nk, Acct.se]
theorem ni_extra (i j : Nat) : (Acct.extra i).ni j = j := by simp [Acct.ni, Acct.fl]
theorem nk_extra (i j : Nat) : (Acct.extra i).nk j = j + 1 := by simp [Acct.nk, Acct.se]
/-- The program's choice: from all accounts that can be. -/
theorem pick_eq (es fs : List En) (i k : Nat) : pickL (costT es fs) i k (accs es fs i k) = if i < es.length ∨ k < fs.length then (some (pickA es fs i k), costT es fs i k) else (none, 0) := by
  have hb := bothC_range (enAt es i) (enAt fs k)
  have hag := agE_bothC (enAt es i) (enAt fs k)
  have hT : costT es fs i k = _ := costT.eq_1 es fs i k
  unfold accs pickA
  rw [bothA_eq]
  generalize bothC (enAt es i) (enAt fs k) = c at *
  generalize costT es fs i k = t0 at *
  by_cases hi : i < es.length
  · by_cases hk : k < fs.length
    · simp only [hi, hk, and_self, if_true, true_or] at hT ⊢
      have hagb : agE (enAt es i) (enAt fs k) = decide (c = 0) := by rw [Bool.eq_iff_iff, hag]; simp
      rw [hagb]
      by_cases hc : c < 0
      · rw [if_pos hc] at hT ⊢
        have h1 : ¬ 0 ≤ c := by omega
        simp only [h1, false_and, if_false, List.nil_append, List.cons_append, pickL, List.foldl_cons, List.foldl_nil, pickStep, Option.isNone_none, true_or, if_true, Acct.cost, ni_drop, nk_drop, ni_extra, nk_extra, Option.isNone_some, Bool.false_eq_true, false_or]
        generalize costT es fs (i + 1) k = x at *
        generalize costT es fs i (k + 1) = y at *
        generalize costT es fs (i + 1) (k + 1) = z at *
        simp only [Int.min_def] at hT
        (repeat' split at hT)
        all_goals (repeat' split)
        all_goals first | (exact Prod.ext rfl (by first | omega | (simp only; omega))) | (exfalso; first | omega | (simp only [Option.isNone_some, Bool.false_eq_true, false_or] at *; omega))
      · rw [if_neg hc] at hT ⊢
        have h1 : 0 ≤ c := by omega
        by_cases h0 : c = 0
        · subst h0
          simp only [h1, true_and, if_true, decide_true, List.cons_append, List.nil_append, pickL, List.foldl_cons, List.foldl_nil, pickStep, Option.isNone_none, true_or, Acct.cost, ni_right, nk_right, ni_drop, nk_drop, ni_extra, nk_extra, Option.isNone_some, Bool.false_eq_true, false_or]
          generalize costT es fs (i + 1) k = x at *
          generalize costT es fs i (k + 1) = y at *
          generalize costT es fs (i + 1) (k + 1) = z at *
          simp only [Int.min_def] at hT
          (repeat' split at hT)
          all_goals (repeat' split)
          all_goals first | (exact Prod.ext rfl (by first | omega | (simp only; omega))) | (exfalso; first | omega | (simp only [Option.isNone_some, Bool.false_eq_true, false_or] at *; omega))
        · obtain rfl : c = 1 := by omega
          simp only [h1, true_and, if_true, if_false, decide_false, Bool.false_eq_true, show ¬ (1 : Int) = 0 by omega, List.cons_append, List.nil_append, pickL, List.foldl_cons, List.foldl_nil, pickStep, Option.isNone_none, true_or, Acct.cost, ni_mis, nk_mis, ni_drop, nk_drop, ni_extra, nk_extra, Option.isNone_some, false_or]
          generalize costT es fs (i + 1) k = x at *
          generalize costT es fs i (k + 1) = y at *
          generalize costT es fs (i + 1) (k + 1) = z at *
          simp only [Int.min_def] at hT
          (repeat' split at hT)
          all_goals (repeat' split)
          all_goals first | (exact Prod.ext rfl (by first | omega | (simp only; omega))) | (exfalso; first | omega | (simp only [Option.isNone_some, Bool.false_eq_true, false_or] at *; omega))
    · simp only [hi, hk, and_false, if_true, if_false, true_or] at hT ⊢
      simp only [List.nil_append, List.append_nil, pickL, List.foldl_cons, List.foldl_nil, pickStep, Option.isNone_none, true_or, if_true, Acct.cost, ni_drop, nk_drop]
      rw [hT]
  · by_cases hk : k < fs.length
    · simp only [hi, hk, false_and, if_true, if_false, or_true] at hT ⊢
      simp only [List.nil_append, pickL, List.foldl_cons, List.foldl_nil, pickStep, Option.isNone_none, true_or, if_true, Acct.cost, ni_extra, nk_extra]
      rw [hT]
    · simp only [hi, hk, false_and, if_false, or_self]
      rfl
/-- The story from there on. -/
theorem pick_on (es fs : List En) (i k : Nat) (h : i < es.length ∨ k < fs.length) : (es.length - (pickA es fs i k).ni i) + (fs.length - (pickA es fs i k).nk k) < (es.length - i) + (fs.length - k) := by
  unfold pickA
  by_cases hi : i < es.length
  · rw [if_pos hi]
    by_cases hk : k < fs.length
    · rw [if_pos hk]
      split
      · split
        · rw [ni_right, nk_right]; omega
        · rw [ni_mis, nk_mis]; omega
      · split
        · rw [ni_drop, nk_drop]; omega
        · rw [ni_extra, nk_extra]; omega
    · rw [if_neg hk, ni_drop, nk_drop]; omega
  · rw [if_neg hi, ni_extra, nk_extra]; omega
def storyL (es fs : List En) (i k : Nat) : List Acct :=
  if h : i < es.length ∨ k < fs.length then pickA es fs i k :: storyL es fs ((pickA es fs i k).ni i) ((pickA es fs i k).nk k) else []
termination_by (es.length - i) + (fs.length - k)
decreasing_by exact pick_on es fs i k ‹_›
theorem storyL_go {es fs : List En} {i k : Nat} (h : i < es.length ∨ k < fs.length) : storyL es fs i k = pickA es fs i k :: storyL es fs ((pickA es fs i k).ni i) ((pickA es fs i k).nk k) := by rw [storyL, dif_pos h]
theorem storyL_end {es fs : List En} {i k : Nat} (h : ¬ (i < es.length ∨ k < fs.length)) : storyL es fs i k = [] := by rw [storyL, dif_neg h]
theorem storyL_length (es fs : List En) (N : Nat) : ∀ (i k : Nat), (es.length - i) + (fs.length - k) = N → (storyL es fs i k).length ≤ N := by
  induction N using Nat.strongRecOn with
  | ind N ih =>
    intro i k h
    by_cases hc : i < es.length ∨ k < fs.length
    · rw [storyL_go hc, List.length_cons]
      have h1 := pick_on es fs i k hc
      have h2 := ih ((es.length - (pickA es fs i k).ni i) + (fs.length - (pickA es fs i k).nk k)) (by omega) _ _ rfl
      omega
    · rw [storyL_end hc]; simp
/-- What an account can be, there. -/
def AccAt (es fs : List En) (i k : Nat) (a : Acct) : Prop :=
  (a = .right i k ∧ i < es.length ∧ k < fs.length ∧ bothC (enAt es i) (enAt fs k) = 0) ∨ (a = .mis i k ∧ i < es.length ∧ k < fs.length ∧ bothC (enAt es i) (enAt fs k) = 1) ∨ (a = .drop i ∧ i < es.length) ∨ (a = .extra k ∧ k < fs.length)
theorem accs_at {es fs : List En} {i k : Nat} {a : Acct} (h : a ∈ accs es fs i k) : AccAt es fs i k a := by
  unfold accs at h
  rw [bothA_eq] at h
  have hb := bothC_range (enAt es i) (enAt fs k)
  simp only [List.mem_append] at h
  rcases h with h | h | h
  · split at h
    · rename_i hh
      split at h
      · cases h
      · split at h
        · simp only [List.mem_cons, List.not_mem_nil, or_false] at h; exact .inl ⟨h, hh.1, hh.2, by assumption⟩
        · simp only [List.mem_cons, List.not_mem_nil, or_false] at h; exact .inr (.inl ⟨h, hh.1, hh.2, by omega⟩)
    · cases h
  · split at h
    · simp only [List.mem_cons, List.not_mem_nil, or_false] at h; exact .inr (.inr (.inl ⟨h, by assumption⟩))
    · cases h
  · split at h
    · simp only [List.mem_cons, List.not_mem_nil, or_false] at h; exact .inr (.inr (.inr ⟨h, by assumption⟩))
    · cases h
theorem pickA_at {es fs : List En} {i k : Nat} (h : i < es.length ∨ k < fs.length) : AccAt es fs i k (pickA es fs i k) := by
  have hb := bothC_range (enAt es i) (enAt fs k)
  have hag := agE_bothC (enAt es i) (enAt fs k)
  unfold pickA
  by_cases hi : i < es.length
  · rw [if_pos hi]
    by_cases hk : k < fs.length
    · rw [if_pos hk]
      split
      · rename_i hc
        split
        · rename_i ha; exact .inl ⟨rfl, hi, hk, hag.1 ha⟩
        · rename_i ha; exact .inr (.inl ⟨rfl, hi, hk, by have hz : ¬ bothC (enAt es i) (enAt fs k) = 0 := fun h => ha (hag.2 h); have := hc.1; omega⟩)
      · split
        · exact .inr (.inr (.inl ⟨rfl, hi⟩))
        · exact .inr (.inr (.inr ⟨rfl, hk⟩))
    · rw [if_neg hk]; exact .inr (.inr (.inl ⟨rfl, hi⟩))
  · rw [if_neg hi]; exact .inr (.inr (.inr ⟨rfl, by omega⟩))
theorem accs_length (es fs : List En) (i k : Nat) : (accs es fs i k).length ≤ 3 := by
  unfold accs
  rw [bothA_eq]
  simp only [List.length_append]
  have h1 : (if i < es.length ∧ k < fs.length then if bothC (enAt es i) (enAt fs k) < 0 then [] else if bothC (enAt es i) (enAt fs k) = 0 then [Acct.right i k] else [Acct.mis i k] else []).length ≤ 1 := by
    split
    · split
      · simp
      · split <;> simp
    · simp
  have h2 : (if i < es.length then [Acct.drop i] else []).length ≤ 1 := by split <;> simp
  have h3 : (if k < fs.length then [Acct.extra k] else []).length ≤ 1 := by split <;> simp
  omega
/-- How many pairs that agree what is left has in common. -/
def lcT (es fs : List En) (i k : Nat) : Int :=
  if i < es.length ∧ k < fs.length then
    if agE (enAt es i) (enAt fs k) = true then max (max (lcT es fs (i + 1) k) (lcT es fs i (k + 1))) (1 + lcT es fs (i + 1) (k + 1))
    else max (lcT es fs (i + 1) k) (lcT es fs i (k + 1))
  else 0
termination_by (es.length - i) + (fs.length - k)
theorem lcT_range (es fs : List En) (N : Nat) : ∀ (i k : Nat), (es.length - i) + (fs.length - k) = N → 0 ≤ lcT es fs i k ∧ lcT es fs i k ≤ (N : Int) := by
  induction N using Nat.strongRecOn with
  | ind N ih =>
    intro i k h
    rw [lcT]
    by_cases hc : i < es.length ∧ k < fs.length
    · have h1 := ih (N - 1) (by omega) (i + 1) k (by omega)
      have h2 := ih (N - 1) (by omega) i (k + 1) (by omega)
      have h3 := ih (N - 2) (by omega) (i + 1) (k + 1) (by omega)
      rw [if_pos hc]
      split <;> omega
    · rw [if_neg hc]; omega
theorem lcT_bd (es fs : List En) (i k : Nat) (h1 : es.length ≤ 60) (h2 : fs.length ≤ 60) : 0 ≤ lcT es fs i k ∧ lcT es fs i k ≤ 120 := by
  have := lcT_range es fs _ i k rfl
  omega
theorem lcT_zero {es fs : List En} {i k : Nat} (h : ¬ (i < es.length ∧ k < fs.length)) : lcT es fs i k = 0 := by rw [lcT, if_neg h]
theorem lcT_left (es fs : List En) (i k : Nat) : lcT es fs (i + 1) k ≤ lcT es fs i k := by
  by_cases hc : i < es.length ∧ k < fs.length
  · rw [lcT.eq_1 es fs i k, if_pos hc]
    split <;> omega
  · rw [lcT_zero hc, lcT_zero (by omega)]; exact Int.le_refl _
theorem lcT_down (es fs : List En) (i k : Nat) : lcT es fs i (k + 1) ≤ lcT es fs i k := by
  by_cases hc : i < es.length ∧ k < fs.length
  · rw [lcT.eq_1 es fs i k, if_pos hc]
    split <;> omega
  · rw [lcT_zero hc, lcT_zero (by omega)]; exact Int.le_refl _
theorem lcT_downs (es fs : List En) (i : Nat) : ∀ {k l : Nat}, k ≤ l → lcT es fs i l ≤ lcT es fs i k := by
  intro k l h
  induction l with
  | zero => obtain rfl : k = 0 := by omega
            exact Int.le_refl _
  | succ l ih =>
    by_cases e : k = l + 1
    · rw [e]; exact Int.le_refl _
    · have := ih (by omega)
      have := lcT_down es fs i l
      omega
theorem lcT_pair {es fs : List En} {i k : Nat} (hi : i < es.length) (hk : k < fs.length) (ha : agE (enAt es i) (enAt fs k) = true) : 1 + lcT es fs (i + 1) (k + 1) ≤ lcT es fs i k := by
  rw [lcT.eq_1 es fs i k, if_pos ⟨hi, hk⟩, if_pos ha]
  omega
/-- An entry can be taken there. -/
def takeB (es fs : List En) (i j k : Nat) : Bool := agE (enAt es i) (enAt fs k) && decide (1 + lcT es fs (i + 1) (k + 1) = lcT es fs i j)
/-- If no pair can be taken, what is left has as much in common without the entry. -/
theorem lcT_skip (es fs : List En) (i : Nat) : ∀ (d j : Nat), fs.length - j = d → (∀ k, j ≤ k → k < fs.length → takeB es fs i j k = false) → lcT es fs (i + 1) j = lcT es fs i j
  | 0, j, hd, _ => by rw [lcT_zero (by omega), lcT_zero (by omega)]
  | d + 1, j, hd, h => by
    by_cases hc : i < es.length ∧ j < fs.length
    · have h0 := h j (Nat.le_refl _) hc.2
      have hle := lcT_left es fs i j
      have hr := lcT.eq_1 es fs i j
      rw [if_pos hc] at hr
      by_cases he : lcT es fs i (j + 1) = lcT es fs i j
      · have ih := lcT_skip es fs i d (j + 1) (by omega) (fun k hk hl => by
          have := h k (by omega) hl
          unfold takeB at this ⊢
          rw [he]; exact this)
        have := lcT_down es fs (i + 1) j
        omega
      · have hd2 := lcT_down es fs i j
        unfold takeB at h0
        cases ha : agE (enAt es i) (enAt fs j)
        · rw [ha, if_neg (by simp)] at hr; omega
        · rw [ha, if_pos rfl] at hr
          rw [ha, Bool.true_and] at h0
          simp only [decide_eq_false_iff_not] at h0
          omega
    · rw [lcT_zero hc, lcT_zero (by omega)]
/-- Only the first one that agrees can be the first one that is taken. -/
theorem take_first {es fs : List En} {i j k k' : Nat} (hi : i < es.length) (hjk : j ≤ k) (hkk : k < k') (hk : k < fs.length) (ha : agE (enAt es i) (enAt fs k) = true) (h' : takeB es fs i j k' = true) : takeB es fs i j k = true := by
  unfold takeB at h' ⊢
  rw [Bool.and_eq_true] at h' ⊢
  refine ⟨ha, ?_⟩
  simp only [decide_eq_true_eq] at h' ⊢
  have h1 := lcT_downs es fs (i + 1) (k := k + 1) (l := k' + 1) (by omega)
  have h2 := lcT_pair hi hk ha
  have h3 := lcT_downs es fs i hjk
  omega
/-- The first place from there on that is so, or the end. -/
def firstFrom (p : Nat → Bool) (n j : Nat) : Nat := if j < n then (if p j = true then j else firstFrom p n (j + 1)) else n
termination_by n - j
theorem firstFrom_ge {p : Nat → Bool} {n j : Nat} (h : ¬ j < n) : firstFrom p n j = n := by rw [firstFrom, if_neg h]
theorem firstFrom_yes {p : Nat → Bool} {n j : Nat} (h : j < n) (hp : p j = true) : firstFrom p n j = j := by rw [firstFrom, if_pos h, if_pos hp]
theorem firstFrom_no {p : Nat → Bool} {n j : Nat} (h : j < n) (hp : p j = false) : firstFrom p n j = firstFrom p n (j + 1) := by rw [firstFrom, if_pos h, if_neg (by rw [hp]; simp)]
theorem firstFrom_spec (p : Nat → Bool) (n : Nat) : ∀ (d j : Nat), n - j = d → (∀ k, j ≤ k → k < firstFrom p n j → p k = false) ∧ firstFrom p n j ≤ max n j ∧ (firstFrom p n j < n → j ≤ firstFrom p n j ∧ p (firstFrom p n j) = true)
  | 0, j, hd => by
    rw [firstFrom_ge (by omega)]
    exact ⟨fun k h1 h2 => by omega, by omega, fun h => by omega⟩
  | d + 1, j, hd => by
    by_cases hp : p j = true
    · rw [firstFrom_yes (by omega) hp]
      exact ⟨fun k h1 h2 => by omega, by omega, fun h => ⟨Nat.le_refl _, hp⟩⟩
    · have hp' : p j = false := by simpa using hp
      rw [firstFrom_no (by omega) hp']
      obtain ⟨h1, h2, h3⟩ := firstFrom_spec p n d (j + 1) (by omega)
      refine ⟨fun k g1 g2 => ?_, by omega, fun h => ⟨by have := h3 h; omega, (h3 h).2⟩⟩
      by_cases e : k = j
      · rw [e]; exact hp'
      · exact h1 k (by omega) g2
/-- The pairs so far, and from where on. -/
def comTo (es fs : List En) : Nat → List (Int × Int) × Nat
  | 0 => ([], 0)
  | i + 1 =>
    if firstFrom (takeB es fs i (comTo es fs i).2) fs.length (comTo es fs i).2 < fs.length then
      ((comTo es fs i).1 ++ [((i : Int), (firstFrom (takeB es fs i (comTo es fs i).2) fs.length (comTo es fs i).2 : Int))], firstFrom (takeB es fs i (comTo es fs i).2) fs.length (comTo es fs i).2 + 1)
    else comTo es fs i
theorem comTo_snd (es fs : List En) : ∀ i, (comTo es fs i).2 ≤ fs.length
  | 0 => Nat.zero_le _
  | i + 1 => by
    rw [comTo]
    split
    · simp only; omega
    · exact comTo_snd es fs i
theorem comTo_length (es fs : List En) : ∀ i, (comTo es fs i).1.length ≤ i
  | 0 => Nat.le_refl _
  | i + 1 => by
    have := comTo_length es fs i
    rw [comTo]
    split
    · simp; omega
    · omega
/-- What has been taken and what is left are the whole. -/
theorem comTo_inv (es fs : List En) : ∀ i, i ≤ es.length → ((comTo es fs i).1.length : Int) + lcT es fs i (comTo es fs i).2 = lcT es fs 0 0
  | 0, _ => by simp [comTo]
  | i + 1, hi => by
    have ih := comTo_inv es fs i (by omega)
    have hs := firstFrom_spec (takeB es fs i (comTo es fs i).2) fs.length _ (comTo es fs i).2 rfl
    rw [comTo]
    split
    · rename_i hlt
      have h1 := (hs.2.2 hlt).2
      unfold takeB at h1
      rw [Bool.and_eq_true] at h1
      have h2 := of_decide_eq_true h1.2
      simp only [List.length_append, List.length_cons, List.length_nil]
      unfold takeB at h2 ⊢
      omega
    · rename_i hlt
      have hle := comTo_snd es fs i
      rw [lcT_skip es fs i _ (comTo es fs i).2 rfl (fun k h1 h2 => hs.1 k h1 (by have := hs.2.1; omega))]
      exact ih
/-- The program's way: the first one that agrees, if it can be taken. -/
theorem com_first (es fs : List En) {i j : Nat} (hi : i < es.length) (_hj : j ≤ fs.length) :
    firstFrom (takeB es fs i j) fs.length j = if firstFrom (fun k => agE (enAt es i) (enAt fs k)) fs.length j < fs.length ∧ 1 + lcT es fs (i + 1) (firstFrom (fun k => agE (enAt es i) (enAt fs k)) fs.length j + 1) = lcT es fs i j then firstFrom (fun k => agE (enAt es i) (enAt fs k)) fs.length j else fs.length := by
  have hs := firstFrom_spec (takeB es fs i j) fs.length _ j rfl
  have ha := firstFrom_spec (fun k => agE (enAt es i) (enAt fs k)) fs.length _ j rfl
  generalize firstFrom (takeB es fs i j) fs.length j = x at *
  generalize firstFrom (fun k => agE (enAt es i) (enAt fs k)) fs.length j = y at *
  obtain ⟨s1, s2, s3⟩ := hs
  obtain ⟨a1, a2, a3⟩ := ha
  by_cases hc : y < fs.length ∧ 1 + lcT es fs (i + 1) (y + 1) = lcT es fs i j
  · rw [if_pos hc]
    obtain ⟨g1, g2⟩ := a3 hc.1
    have ht : takeB es fs i j y = true := by unfold takeB; rw [g2, decide_eq_true hc.2]; rfl
    have hxy : x ≤ y := Nat.le_of_not_lt (fun h => by rw [s1 y g1 h] at ht; cases ht)
    by_cases e : x = y
    · exact e
    · obtain ⟨g3, g4⟩ := s3 (by omega)
      have := a1 x g3 (by omega)
      unfold takeB at g4
      rw [this] at g4; cases g4
  · rw [if_neg hc]
    by_cases hx : x < fs.length
    · exfalso
      obtain ⟨g3, g4⟩ := s3 hx
      have hax : agE (enAt es i) (enAt fs x) = true := by unfold takeB at g4; rw [Bool.and_eq_true] at g4; exact g4.1
      have hyx : y ≤ x := Nat.le_of_not_lt (fun h => by have := a1 x g3 h; rw [this] at hax; cases hax)
      obtain ⟨g5, g6⟩ := a3 (by omega)
      by_cases e : y = x
      · subst e
        unfold takeB at g4; rw [Bool.and_eq_true] at g4
        exact hc ⟨hx, of_decide_eq_true g4.2⟩
      · have ht := take_first hi g5 (by omega) (by omega) g6 g4
        unfold takeB at ht; rw [Bool.and_eq_true] at ht
        exact hc ⟨by omega, of_decide_eq_true ht.2⟩
    · omega
end Go.Proofs.YtnkoakneffjkbaaDoor
