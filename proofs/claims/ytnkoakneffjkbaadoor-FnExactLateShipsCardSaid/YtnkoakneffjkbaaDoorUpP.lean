/- Logs: what is up, by the flights and by the model's list: the same. -/
import Derived.Test.YtnkoakneffjkbaaDoorFlyW
import Derived.Test.YtnkoakneffjkbaaDoorUpM
namespace Go.Proofs.YtnkoakneffjkbaaDoor
set_option linter.unusedVariables false
open Go.RowKit
def openAt (m : Nat) (p : Int × Int) : Bool := decide (p.1 < (m : Int)) && (decide (p.2 = -1) || decide ((m : Int) ≤ p.2))
def upF (es : List En) (n m : Nat) : List Int := ((flyTo es n).F.filter (openAt m)).map (·.1)
/-- What is so of the flights. -/
structure FlInv (es : List En) (k : Nat) (u : Int → Option Nat) (F : List (Int × Int)) : Prop where
  rng : ∀ i, i < F.length → 0 ≤ (flAt F i).1 ∧ (flAt F i).1 < k ∧ ((flAt F i).2 = -1 ∨ ((flAt F i).1 < (flAt F i).2 ∧ (flAt F i).2 < k))
  up : ∀ x i, u x = some i → i < F.length ∧ (flAt F i).2 = -1 ∧ (enAt es (flAt F i).1.toNat).s = x
theorem flAt_set_eq {F : List (Int × Int)} {i : Nat} {y : Int × Int} (h : i < F.length) : flAt (F.set i y) i = y := by simp [flAt, List.getD, h]
theorem flAt_set_ne {F : List (Int × Int)} {i j : Nat} {y : Int × Int} (h : i ≠ j) : flAt (F.set i y) j = flAt F j := by simp [flAt, List.getD, h]
theorem flAt_app_left {F G : List (Int × Int)} {i : Nat} (h : i < F.length) : flAt (F ++ G) i = flAt F i := by simp [flAt, List.getD, List.getElem?_append_left h]
theorem flAt_app_last {F : List (Int × Int)} {y : Int × Int} : flAt (F ++ [y]) F.length = y := by simp [flAt, List.getD]
theorem fly_inv (es : List En) : ∀ k, FlInv es k (flyTo es k).u (flyTo es k).F
  | 0 => ⟨fun i h => by simp [flyTo] at h, fun x i h => by simp [flyTo] at h⟩
  | k + 1 => by
    obtain ⟨hr, hu⟩ := fly_inv es k
    cases hs : (flyTo es k).u (enAt es k).s with
    | some i =>
      rw [flyTo_yes hs]
      obtain ⟨h1, h2, h3⟩ := hu _ i hs
      refine ⟨fun j hj => ?_, fun x j hx => ?_⟩
      · rw [List.length_set] at hj
        by_cases hij : i = j
        · subst hij
          rw [flAt_set_eq h1]
          have := hr i h1
          refine ⟨this.1, ?_, .inr ⟨?_, ?_⟩⟩ <;> simp only <;> omega
        · rw [flAt_set_ne hij]
          have := hr j hj
          omega
      · simp only at hx
        rw [List.length_set]
        split at hx
        · cases hx
        · rename_i hne
          obtain ⟨g1, g2, g3⟩ := hu x j hx
          have hij : i ≠ j := fun e => hne (by rw [← g3, ← e, h3])
          rw [flAt_set_ne hij]
          exact ⟨g1, g2, g3⟩
    | none =>
      rw [flyTo_no hs]
      refine ⟨fun j hj => ?_, fun x j hx => ?_⟩
      · simp only [List.length_append, List.length_cons, List.length_nil] at hj
        by_cases hjl : j < (flyTo es k).F.length
        · rw [flAt_app_left hjl]
          have := hr j hjl
          omega
        · obtain rfl : j = (flyTo es k).F.length := by omega
          rw [flAt_app_last]
          refine ⟨?_, ?_, .inl rfl⟩ <;> simp only <;> omega
      · simp only at hx
        simp only [List.length_append, List.length_cons, List.length_nil]
        split at hx
        · rename_i he
          cases hx
          rw [flAt_app_last]
          exact ⟨by omega, rfl, by simp only [Int.toNat_natCast]; exact he.symm⟩
        · obtain ⟨g1, g2, g3⟩ := hu x j hx
          rw [flAt_app_left g1]
          exact ⟨by omega, g2, g3⟩
theorem fl_split {F : List (Int × Int)} {i : Nat} (h : i < F.length) : F = F.take i ++ flAt F i :: F.drop (i + 1) := by
  have h1 : flAt F i = F[i] := by simp [flAt, List.getD, h]
  rw [h1]
  conv => lhs; rw [← List.take_append_drop i F, List.drop_eq_getElem_cons h]
theorem fl_set_split {F : List (Int × Int)} {i : Nat} (h : i < F.length) (y : Int × Int) : F.set i y = F.take i ++ y :: F.drop (i + 1) := by
  rw [List.set_eq_take_append_cons_drop, if_pos h]
theorem openAt_now {es : List En} {k : Nat} {u : Int → Option Nat} {F : List (Int × Int)} (h : FlInv es k u F) {m : Nat} (hm : k ≤ m) : ∀ p ∈ F, openAt m p = decide (p.2 = -1) := by
  intro p hp
  obtain ⟨i, hi, rfl⟩ := List.mem_iff_getElem.1 hp
  have := h.rng i hi
  rw [show flAt F i = F[i] by simp [flAt, List.getD, hi]] at this
  unfold openAt
  rw [decide_eq_true (by omega), Bool.true_and]
  by_cases h2 : F[i].2 = -1
  · rw [decide_eq_true h2, Bool.true_or]
  · rw [decide_eq_false h2, Bool.false_or, decide_eq_false (by omega)]
theorem upF_now (es : List En) : ∀ k, upF es k k = upS es k
  | 0 => rfl
  | k + 1 => by
    have ih := upF_now es k
    have I := fly_inv es k
    have I2 := fly_inv es (k + 1)
    have U := up_inv es k
    have hf : upF es k k = ((flyTo es k).F.filter (fun p => decide (p.2 = -1))).map (·.1) := by
      unfold upF; rw [List.filter_congr (openAt_now I (Nat.le_refl _))]
    have hf2 : upF es (k + 1) (k + 1) = ((flyTo es (k + 1)).F.filter (fun p => decide (p.2 = -1))).map (·.1) := by
      unfold upF; rw [List.filter_congr (openAt_now I2 (Nat.le_refl _))]
    rw [hf2, upS]
    rw [hf] at ih
    have hsp := atUp_spec U (enAt es k).s
    rw [← fly_up] at hsp
    cases hs : (flyTo es k).u (enAt es k).s with
    | some i =>
      rw [hs] at hsp
      obtain ⟨h1, h2, h3⟩ := I.up _ i hs
      have hge : 0 ≤ atUp es (upS es k) (enAt es k).s := by simpa using hsp
      rw [if_neg (by omega), flyTo_yes hs, fl_set_split h1]
      rw [fl_split h1] at ih
      rw [List.filter_append, List.filter_cons, if_pos (by simpa using h2), List.map_append, List.map_cons] at ih
      rw [List.filter_append, List.filter_cons, if_neg (by simp), List.map_append]
      generalize (((flyTo es k).F.take i).filter (fun p => decide (p.2 = -1))).map (·.1) = a at *
      generalize (((flyTo es k).F.drop (i + 1)).filter (fun p => decide (p.2 = -1))).map (·.1) = b at *
      rcases lastP_range (fun j => sigAt es (upS es k) j == (enAt es k).s) (upS es k).length with g | ⟨g1, g2, g3⟩
      · change atUp es (upS es k) (enAt es k).s = -1 at g; omega
      · change 0 ≤ atUp es (upS es k) (enAt es k).s at g1
        change atUp es (upS es k) (enAt es k).s < _ at g2
        change (sigAt es (upS es k) (atUp es (upS es k) (enAt es k).s).toNat == (enAt es k).s) = true at g3
        generalize atUp es (upS es k) (enAt es k).s = z at *
        have ha : sigAt es (upS es k) a.length = (enAt es k).s := by
          unfold sigAt
          rw [← ih, ← h3]
          simp [List.getD]
        have hl : a.length < (upS es k).length := by rw [← ih]; simp
        have he := U.one z.toNat a.length (by omega) hl (by rw [ha]; simpa using g3)
        rw [he, ← ih]
        simp
    | none =>
      rw [hs] at hsp
      have hlt : ¬ 0 ≤ atUp es (upS es k) (enAt es k).s := by simpa using hsp
      rw [if_pos (by omega), flyTo_no hs, ← ih]
      simp
theorem upF_eq (es : List En) (m : Nat) : ∀ n, m ≤ n → upF es n m = upS es m
  | n, hmn => by
    by_cases h : n = m
    · subst h; exact upF_now es n
    · obtain ⟨k, rfl⟩ : ∃ k, n = k + 1 := ⟨n - 1, by omega⟩
      have ih := upF_eq es m k (by omega)
      rw [← ih]
      have I := fly_inv es k
      unfold upF
      cases hs : (flyTo es k).u (enAt es k).s with
      | some i =>
        obtain ⟨h1, h2, h3⟩ := I.up _ i hs
        rw [flyTo_yes hs, fl_set_split h1]
        conv => rhs; rw [fl_split h1]
        have ho : openAt m ((flAt (flyTo es k).F i).1, (k : Int)) = openAt m (flAt (flyTo es k).F i) := by
          unfold openAt
          rw [h2]
          simp only
          rw [decide_eq_true (show (m : Int) ≤ (k : Int) by omega)]
          simp
        simp only [List.filter_append, List.filter_cons, ho, List.map_append]
        split <;> simp
      | none =>
        rw [flyTo_no hs]
        have ho : openAt m ((k : Int), -1) = false := by
          unfold openAt
          rw [decide_eq_false (show ¬ (k : Int) < (m : Int) by omega), Bool.false_and]
        simp [List.filter_append, ho]
end Go.Proofs.YtnkoakneffjkbaaDoor
