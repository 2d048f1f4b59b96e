/- Logs: which signal is up, which flights there are, what is valid. -/
import Derived.Test.YtnkoakneffjkbaaDoorEntM
import Derived.Test.YtnkoakneffjkbaaDoorHoistM
namespace Go.Proofs.YtnkoakneffjkbaaDoor
set_option linter.unusedVariables false
open Go.RowKit
/-- Whether a signal is up behind so many entries. -/
def isUp (es : List En) : Nat → Int → Bool
  | 0, _ => false
  | k + 1, x => if x = (enAt es k).s then !isUp es k x else isUp es k x
def beforeE (es : List En) (k : Nat) : Int := if k = 0 then 0 else (enAt es (k - 1)).t
def goodE (es : List En) (k : Nat) : Bool := rgV (enAt es k).t (beforeE es k) 100000 && (rgV (enAt es k).s 0 9999 && ((enAt es k).d == isUp es k (enAt es k).s))
def validE (es : List En) : Bool := decide (es.length ≤ 60) && allTo (goodE es) es.length
/-- Which flight a signal belongs to that is up; and the flights. -/
structure FlySt where
  u : Int → Option Nat
  F : List (Int × Int)
def flyStep (es : List En) (k : Nat) (st : FlySt) : FlySt :=
  match st.u (enAt es k).s with
  | some i => ⟨fun x => if x = (enAt es k).s then none else st.u x, st.F.set i ((st.F.getD i (0, 0)).1, (k : Int))⟩
  | none => ⟨fun x => if x = (enAt es k).s then some st.F.length else st.u x, st.F ++ [((k : Int), -1)]⟩
def flyTo (es : List En) : Nat → FlySt
  | 0 => ⟨fun _ => none, []⟩
  | k + 1 => flyStep es k (flyTo es k)
theorem fly_up (es : List En) : ∀ k x, ((flyTo es k).u x).isSome = isUp es k x
  | 0, _ => rfl
  | k + 1, x => by
    have ih := fly_up es k
    rw [flyTo, isUp]
    unfold flyStep
    by_cases hx : x = (enAt es k).s
    · rw [if_pos hx]
      cases h : (flyTo es k).u (enAt es k).s with
      | some i =>
        have := ih x
        rw [hx, h] at this
        simp only [hx, if_true, Option.isSome_none]
        rw [← this]; rfl
      | none =>
        have := ih x
        rw [hx, h] at this
        simp only [hx, if_true, Option.isSome_some]
        rw [← this]; rfl
    · rw [if_neg hx, ← ih x]
      cases h : (flyTo es k).u (enAt es k).s <;> simp only [if_neg hx]
theorem flyTo_length (es : List En) : ∀ k, (flyTo es k).F.length ≤ k
  | 0 => Nat.le_refl _
  | k + 1 => by
    have := flyTo_length es k
    rw [flyTo]
    unfold flyStep
    split <;> simp <;> omega
/-- A signal that is up has a flight. -/
theorem fly_lt (es : List En) : ∀ k x i, (flyTo es k).u x = some i → i < (flyTo es k).F.length
  | 0, _, _, h => by simp [flyTo] at h
  | k + 1, x, i, h => by
    have ih := fly_lt es k
    rw [flyTo] at h ⊢
    unfold flyStep at h ⊢
    cases hu : (flyTo es k).u (enAt es k).s with
    | some j =>
      rw [hu] at h
      simp only at h ⊢
      rw [List.length_set]
      split at h
      · cases h
      · exact ih x i h
    | none =>
      rw [hu] at h
      simp only at h ⊢
      rw [List.length_append]
      split at h
      · cases h; simp
      · have := ih x i h; simp; omega
theorem allTo_true {p : Nat → Bool} {n i : Nat} (h : allTo p n = true) (hi : i < n) : p i = true := allTo_iff.1 h i hi
/-- The first one that is not so. -/
theorem allTo_first {p : Nat → Bool} : ∀ {n : Nat}, allTo p n = false → ∃ k, k < n ∧ allTo p k = true ∧ p k = false
  | 0, h => by simp [allTo] at h
  | n + 1, h => by
    cases hn : allTo p n
    · obtain ⟨k, h1, h2, h3⟩ := allTo_first hn
      exact ⟨k, by omega, h2, h3⟩
    · refine ⟨n, by omega, hn, ?_⟩
      cases hp : p n
      · rfl
      · rw [allTo_step hn hp] at h; cases h
end Go.Proofs.YtnkoakneffjkbaaDoor
